package tests

import (
	"regexp"
	"slices"
	"strconv"
	"strings"
	"testing"

	"loop.example/kilnwind/impl"
)

// The helpers here follow chapter 8 by means of the models of the chapters before; its lines are told apart by patterns.

// modelSession is a session that is followed line by line.
type modelSession struct {
	world impl.World
}

func newModelSession() *modelSession {
	m := &modelSession{}
	m.begin("k", 8)
	return m
}

func (m *modelSession) begin(key string, width int) {
	m.world = impl.World{Key: key, Width: width}
	for number := 1; number <= 2; number++ {
		m.world.Ends = append(m.world.Ends, impl.End{Number: number, Up: true, Life: 1})
	}
}

// row is a line of the document's table. Its pattern finds the words of a line that are not always the same.
type row struct {
	pattern *regexp.Regexp
	answer  func(m *modelSession, found []string) string
}

// rowOf is a row whose line is written as in the document.
func rowOf(line string, answer func(m *modelSession, found []string) string) row {
	words := strings.NewReplacer("TEXT", `(.+)`, "KEY", `([^ ]+)`, "N", `(0|[1-9][0-9]{0,5})`)
	return row{regexp.MustCompile(`(?s)\A` + words.Replace(line) + `\z`), answer}
}

func eventRow(line string, kind int) row {
	return rowOf(line, func(m *modelSession, found []string) string {
		var numbers []int
		for _, word := range found {
			numbers = append(numbers, parsed(word))
		}
		m.world = wantDo(m.world, at(kind, numbers...))
		return m.flight()
	})
}

var sessionRows = []row{
	rowOf("world KEY N", (*modelSession).worldRow),
	eventRow("tick", impl.EvTick),
	eventRow("bring N", impl.EvBring),
	eventRow("double N", impl.EvDouble),
	eventRow("lose N", impl.EvLose),
	eventRow("bend N N N", impl.EvBend),
	eventRow("cut N N", impl.EvCut),
	eventRow("turn N", impl.EvTurn),
	eventRow("fall N", impl.EvFall),
	eventRow("rise N", impl.EvRise),
	rowOf("push N TEXT", (*modelSession).pushRow),
	rowOf("pull N", (*modelSession).pullRow),
	rowOf("calm N N", (*modelSession).calmRow),
	rowOf("show", (*modelSession).showRow),
}

func (m *modelSession) answer(line string) string {
	for _, row := range sessionRows {
		if found := row.pattern.FindStringSubmatch(line); found != nil {
			return row.answer(m, found[1:])
		}
	}
	return "bad"
}

func parsed(word string) int {
	number, err := strconv.Atoi(word)
	if err != nil {
		panic(err)
	}
	return number
}

func (m *modelSession) flight() string {
	return strconv.Itoa(len(m.world.Flight))
}

func (m *modelSession) worldRow(found []string) string {
	width := parsed(found[1])
	if len(found[0]) > 30 || width < 1 || width > 8 {
		return "no"
	}
	m.begin(found[0], width)
	return "ok"
}

func (m *modelSession) pushRow(found []string) string {
	number := parsed(found[0])
	if number != 1 && number != 2 {
		return "code 1"
	}
	code := wantGiven(m.world.Ends[number-1], found[1]).Code
	m.world = wantDo(m.world, pushing(number, found[1]))
	return "code " + strconv.Itoa(code)
}

func (m *modelSession) pullRow(found []string) string {
	number := parsed(found[0])
	if number != 1 && number != 2 {
		return "code 1"
	}
	taken := wantTaken(m.world.Ends[number-1])
	m.world = wantDo(m.world, at(impl.EvPull, number))
	if taken.Code != 0 {
		return "code " + strconv.Itoa(taken.Code)
	}
	return "got " + unseen.ReplaceAllString(latin(taken.Text), "?")
}

// unseen finds what is not shown of a message whose bytes have become runes.
var unseen = regexp.MustCompile(`[^\x20-\x7e]`)

// latin is a text with a rune for each byte.
func latin(text string) string {
	var runes []rune
	for i := range len(text) {
		runes = append(runes, rune(text[i]))
	}
	return string(runes)
}

func (m *modelSession) calmRow(found []string) string {
	rounds, every := parsed(found[0]), parsed(found[1])
	if rounds > 200 || every < 1 || every > 10 {
		return "no"
	}
	m.world = calmBy(m.world, rounds, every, wantDo)
	return m.flight()
}

func (m *modelSession) showRow([]string) string {
	var ends []string
	for _, e := range m.world.Ends {
		words := []string{"down", strconv.Itoa(e.Life)}
		if e.Up {
			words = []string{strconv.Itoa(e.Life), strconv.Itoa(e.Peer), strconv.Itoa(len(e.Send.Items)), strconv.Itoa(len(e.Take.Ready))}
		}
		ends = append(ends, strings.Join(words, " "))
	}
	words := []string{strings.Join(ends, ", "), map[bool]string{true: "right", false: "wrong"}[wantRight(m.world)]}
	if wantIdle(m.world) {
		words = append(words, "idle")
	}
	if m.world.Forged != "" {
		words = append(words, "forged")
	}
	return strings.Join(words, " ")
}

// wantSession is Session.
func wantSession(text string) string {
	lines := strings.Count(text, "\n")
	if text != "" && !strings.HasSuffix(text, "\n") {
		lines++
	}
	if len(text) > 20000 || lines > 400 {
		return "too long\n"
	}
	m := newModelSession()
	answers := ""
	for text != "" {
		line, rest, _ := strings.Cut(text, "\n")
		answers += m.answer(line) + "\n"
		text = rest
	}
	return answers
}

// ofLines is a session of lines, each ended by a newline.
func ofLines(lines ...string) string {
	all := ""
	for _, line := range lines {
		all += line + "\n"
	}
	return all
}

// answers are those of the program to a session of lines. It fails unless they are those of the model, and there is one
// for each line.
func answers(t *testing.T, lines ...string) []string {
	t.Helper()
	got := impl.Session(ofLines(lines...))
	if want := wantSession(ofLines(lines...)); got != want {
		t.Fatalf("%s", firstDifference(lines, got, want))
	}
	all := strings.Split(got, "\n")
	if len(all) != len(lines)+1 || all[len(lines)] != "" {
		t.Fatalf("%d answers to %d lines: %q", len(all)-1, len(lines), got)
	}
	return all[:len(lines)]
}

// lastAnswer is the answer to the last line of a session.
func lastAnswer(t *testing.T, lines ...string) string {
	t.Helper()
	all := answers(t, lines...)
	return all[len(all)-1]
}

// wantAnswers fails unless the last answers to a session are these.
func wantAnswers(t *testing.T, lines []string, want ...string) {
	t.Helper()
	got := answers(t, lines...)
	got = got[len(got)-len(want):]
	for i := range want {
		if got[i] != want[i] {
			t.Errorf("%q: answer %d of the last %d: %q, not %q", cutShort(strings.Join(lines, "/")), i, len(want), got[i], want[i])
		}
	}
}

// then are lines with others behind them.
func then(first []string, second ...string) []string {
	return append(slices.Clone(first), second...)
}

// repeated are so many of a line.
func repeated(line string, times int) []string {
	return slices.Repeat([]string{line}, times)
}

func firstDifference(lines []string, got, want string) string {
	gots, wants := strings.Split(got, "\n"), strings.Split(want, "\n")
	for i, line := range lines {
		if i >= len(gots) || i >= len(wants) || gots[i] != wants[i] {
			return strconv.Quote(cutShort(line)) + " in line " + strconv.Itoa(i) + ": " + strconv.Quote(strings.Join(gots[min(i, len(gots)):min(i+1, len(gots))], "")) + ", not " + strconv.Quote(strings.Join(wants[min(i, len(wants)):min(i+1, len(wants))], ""))
		}
	}
	return strconv.Quote(cutShort(got)) + ", not " + strconv.Quote(cutShort(want))
}

func cutShort(text string) string {
	if len(text) > 300 {
		return text[:300] + ".."
	}
	return text
}

// bends are the lines that change the bytes of parcel 0 from those of a text to those of another one of the same size.
func bends(from, to string) []string {
	return bendsAt(0, from, to)
}

// bendsAt are such lines for the parcel at a place.
func bendsAt(place int, from, to string) []string {
	var lines []string
	for i := range len(from) {
		if by := int(from[i] ^ to[i]); by != 0 {
			lines = append(lines, "bend "+strconv.Itoa(place)+" "+strconv.Itoa(i)+" "+strconv.Itoa(by))
		}
	}
	return lines
}

// exchanged are the lines in which end 1 gives so many messages of one part, all of which are taken.
func exchanged(count int) []string {
	return append(repeated("push 1 x", count), "calm 200 1")
}

// remembered are the lines of a session behind which so many records are given and taken together, so many of them
// messages of one part that end 1 has still to send.
func remembered(count, unsent int) []string {
	lines := []string{"calm 7 1"}
	for left := (count - unsent) / 2; left > 0; left -= 60 {
		lines = append(lines, exchanged(min(left, 60))...)
	}
	return append(lines, repeated("push 1 x", unsent)...)
}
