package tests

import (
	"math/rand"
	"strconv"
	"strings"
	"sync"
	"testing"

	"loop.example/kilnwind/impl"
)

// lineOf is the line of an event. A newline would end the line.
func lineOf(e impl.Event) string {
	n := strconv.Itoa(e.A)
	switch e.Kind {
	case impl.EvTick:
		return "tick"
	case impl.EvBend:
		return "bend " + n + " " + strconv.Itoa(e.B) + " " + strconv.Itoa(e.C)
	case impl.EvCut:
		return "cut " + n + " " + strconv.Itoa(e.B)
	case impl.EvPush:
		return "push " + n + " " + strings.ReplaceAll(e.Text, "\n", " ")
	}
	words := map[int]string{impl.EvBring: "bring", impl.EvDouble: "double", impl.EvLose: "lose", impl.EvTurn: "turn", impl.EvFall: "fall", impl.EvRise: "rise", impl.EvPull: "pull"}
	return words[e.Kind] + " " + n
}

// drawer draws the lines of a session. Some moves are more lines than one; those that are left wait.
type drawer struct {
	*storm
	model   *modelSession
	waiting []string
	seen    map[string]int
}

func newDrawer(seed int64, how weather) *drawer {
	return &drawer{storm: newStorm(seed, how), model: newModelSession(), seen: map[string]int{}}
}

func (d *drawer) oneOf(words ...string) string {
	return words[d.source.Intn(len(words))]
}

// forge draws the lines that change a parcel in flight into another one with a right tag, and bring it.
func (d *drawer) forge() []string {
	w := d.model.world
	if len(w.Flight) == 0 {
		return nil
	}
	place := d.source.Intn(len(w.Flight))
	p := w.Flight[place]
	packet, ok := wantReadForm(p.Bytes, w.Key, w.Width)
	if !ok {
		return nil
	}
	if packet.Kind == impl.PackWord {
		packet.Mask = d.source.Intn(256)
	} else {
		packet.Part = strings.Repeat("f", len(packet.Part))
	}
	return append(bendsAt(place, p.Bytes, wantForm(packet, w.Key, w.Width)), "bring "+strconv.Itoa(place))
}

// line is the next line.
func (d *drawer) line() string {
	if len(d.waiting) == 0 {
		switch d.source.Intn(150) {
		case 0:
			d.waiting = d.forge()
		case 1:
			d.waiting = repeated("push "+d.oneOf("1", "2")+" "+strings.Repeat("many ", 40), 7)
		}
	}
	if len(d.waiting) > 0 {
		line := d.waiting[0]
		d.waiting = d.waiting[1:]
		return line
	}
	return d.oneLine()
}

// oneLine is any line; most of them find something.
func (d *drawer) oneLine() string {
	switch d.source.Intn(40) {
	case 0, 1, 2:
		return "show"
	case 3, 4:
		return "calm " + d.oneOf("0", "1", "2", "7", "20", "200", "201") + " " + d.oneOf("0", "1", "1", "1", "2", "3", "10", "11")
	case 5:
		if d.source.Intn(8) == 0 {
			return "world " + d.oneOf("k", "key", letters(30)[1:], "0123456789012345678901234567890") + " " + d.oneOf("0", "1", "2", "8", "8", "9")
		}
		return "push " + d.oneOf("0", "1", "2", "3") + " " + d.oneOf(" ", "  a", "a  b ", "\x00\xff", letters(201)[11:], strings.Repeat("z ", 101))
	case 6:
		return lineOf(at(1+d.source.Intn(11), d.source.Intn(1200), d.source.Intn(60), d.source.Intn(2000)))
	case 7, 8, 9:
		return d.spoil(lineOf(d.event(d.model.world)))
	case 10:
		return d.spoil(d.oneOf("show", "calm 5 1", "world k 8", "push 1 a b", "pull 2"))
	}
	return lineOf(d.event(d.model.world))
}

// spoil changes a line somewhere, and most often makes it one that is none.
func (d *drawer) spoil(line string) string {
	place := d.source.Intn(len(line) + 1)
	switch d.source.Intn(6) {
	case 0:
		return line[:place] + " " + line[place:]
	case 1:
		return line[:place] + d.oneOf("0", "1", "9", "x", "-", "+", "\t", "\x00", "\xff", "\r") + line[place:]
	case 2:
		return line[:place]
	case 3:
		return line[place:]
	case 4:
		return line + " " + d.oneOf("0", "1", "x", "tick")
	}
	return line[:max(place-1, 0)] + line[place:]
}

// session is a session of so many lines, and what the model answers to each.
func (d *drawer) session(count int) ([]string, []string) {
	d.model, d.waiting = newModelSession(), nil
	var lines, wants []string
	for size := 0; len(lines) < count; {
		line := strings.ReplaceAll(d.line(), "\n", " ")
		if size += len(line) + 1; size > 20000 {
			break
		}
		lines = append(lines, line)
		wants = append(wants, d.model.answer(line))
		d.count(wants[len(wants)-1])
	}
	return lines, wants
}

// count keeps what kinds of answers have been seen, so that a test can tell whether it tells enough.
func (d *drawer) count(answer string) {
	if number, err := strconv.Atoi(answer); err == nil {
		answer = "number " + strconv.FormatBool(number > 0)
	}
	if strings.HasPrefix(answer, "got ") {
		answer = "got"
	}
	for _, word := range []string{"down", "right", "wrong", "idle", "forged"} {
		if strings.Contains(answer, " "+word) || strings.HasPrefix(answer, word) {
			d.seen[word]++
		}
	}
	d.seen[answer]++
}

// Drawn sessions in each weather are answered as the model answers them, whole and cut behind any line.
func TestDrawnSessions(t *testing.T) {
	var lock sync.Mutex
	seen := map[string]int{}
	t.Run("weathers", func(t *testing.T) {
		for i, how := range weathers() {
			t.Run(how.name, func(t *testing.T) {
				t.Parallel()
				d := newDrawer(int64(600+i), how)
				for range 25 {
					keepsFirstAnswers(t, d)
				}
				lock.Lock()
				defer lock.Unlock()
				for what, count := range d.seen {
					seen[what] += count
				}
			})
		}
	})
	for _, what := range []string{"bad", "ok", "no", "number true", "number false", "got", "code 0", "code 1", "code 2", "code 3", "code 4", "down", "right", "wrong", "idle", "forged"} {
		if seen[what] == 0 {
			t.Errorf("no answer was %s: the test tells too little", what)
		}
	}
}

// keepsFirstAnswers fails unless P14 holds for a drawn session: cut behind any of its lines, with the newline there or
// not, it is answered by the first answers to the whole.
func keepsFirstAnswers(t *testing.T, d *drawer) {
	t.Helper()
	lines, wants := d.session([]int{1, 2, 10, 40, 150, 400}[d.source.Intn(6)])
	for _, end := range []string{"\n", ""} {
		session := strings.Join(lines, "\n") + end
		if end == "" && lines[len(lines)-1] == "" {
			continue
		}
		if got := impl.Session(session); got != ofLines(wants...) {
			t.Fatalf("%s", firstDifference(lines, got, ofLines(wants...)))
		}
	}
	step := 1 + len(lines)/20
	for cut := d.source.Intn(step); cut <= len(lines); cut += step {
		if got := impl.Session(ofLines(lines[:cut]...)); got != ofLines(wants[:cut]...) {
			t.Fatalf("the first %d of %d lines: %s", cut, len(lines), firstDifference(lines[:cut], got, ofLines(wants[:cut]...)))
		}
	}
}

// Other lines behind the first ones, whatever they are, leave the answers to these as they are.
func TestSessionOtherLinesBehind(t *testing.T) {
	d := newDrawer(77, weathers()[6])
	for range 30 {
		lines, wants := d.session(60)
		first := ofLines(wants...)
		others := []string{"", "x", "\n", "tick", "world k 1\ncalm 200 10\n", "\x00", " ", ofLines(lines...), strings.Repeat("show\n", 340), strings.Repeat("\n", 340), strings.Repeat("x", 4000)}
		for _, other := range others {
			got := impl.Session(ofLines(lines...) + other)
			if !strings.HasPrefix(got, first) {
				t.Fatalf("with %q behind: %s", cutShort(other), firstDifference(lines, got, first))
			}
			if want := wantSession(ofLines(lines...) + other); got != want {
				t.Fatalf("with %q behind: %q, not %q", cutShort(other), cutShort(got), cutShort(want))
			}
		}
		for _, other := range []string{strings.Repeat("show\n", 341), strings.Repeat("\n", 340) + "x", strings.Repeat("x", 20000)} {
			if got := impl.Session(ofLines(lines...) + other); got != "too long\n" {
				t.Fatalf("with %q behind: %q", cutShort(other), cutShort(got))
			}
		}
	}
}

// A text that is cut at any byte has the answers to its whole lines ahead of that to the rest.
func TestSessionCutAtAnyByte(t *testing.T) {
	session := ofLines("push 1 early", "calm 7 1", "show", "push 1 hello  there", "tick", "double 0", "bend 0 3 7", "bring 1", "pull 2", "world key 2", "fall 1", "show")
	all := strings.SplitAfter(impl.Session(session), "\n")
	for cut := range len(session) + 1 {
		got := impl.Session(session[:cut])
		whole := strings.Join(all[:strings.Count(session[:cut], "\n")], "")
		if !strings.HasPrefix(got, whole) || got != wantSession(session[:cut]) {
			t.Errorf("cut at %d: %q, not %q", cut, got, wantSession(session[:cut]))
		}
	}
}

// Texts of any bytes are answered, with one line for each of theirs.
func TestSessionAnyText(t *testing.T) {
	source := rand.New(rand.NewSource(14))
	alphabet := "\n\n\n  01239 k\x00\xff"
	words := []string{"tick", "show", "push", "pull", "calm", "bring", "bend", "cut", "turn", "fall", "rise", "world", "lose", "double"}
	for range 3000 {
		var b strings.Builder
		for range source.Intn(60) {
			if source.Intn(3) == 0 {
				b.WriteString(words[source.Intn(len(words))])
			} else {
				b.WriteByte(alphabet[source.Intn(len(alphabet))])
			}
		}
		session := b.String()
		if got, want := impl.Session(session), wantSession(session); got != want {
			t.Fatalf("%q: %q, not %q", session, got, want)
		}
	}
	for range 300 {
		bytes := make([]byte, source.Intn(20100))
		source.Read(bytes)
		if got, want := impl.Session(string(bytes)), wantSession(string(bytes)); got != want {
			t.Fatalf("%d bytes: %q, not %q", len(bytes), cutShort(got), cutShort(want))
		}
	}
}

// The same text is answered the same each time, also when others are answered at the same time.
func TestSessionAnswersTheSame(t *testing.T) {
	for i, how := range weathers() {
		lines, wants := newDrawer(int64(900+i), how).session(150)
		session, want := ofLines(lines...), ofLines(wants...)
		var group sync.WaitGroup
		for range 6 {
			group.Add(1)
			go func() {
				defer group.Done()
				for range 3 {
					if got := impl.Session(session); got != want {
						t.Errorf("%s: %s", how.name, firstDifference(lines, got, want))
					}
				}
			}()
		}
		group.Wait()
	}
}

// A session of the longest calms ends, with ends that have all to send that they can, and can't.
func TestSessionOfTheLongestCalms(t *testing.T) {
	lines := then(remembered(400, 60), repeated("calm 200 10", 100)...)
	if got := lastAnswer(t, lines...); got != "0" {
		t.Error(got)
	}
	session := ofLines(append(remembered(280, 60), repeated("calm 200 10", 180)...)...)
	if got := impl.Session(session); strings.Count(got, "\n") != strings.Count(session, "\n") {
		t.Errorf("%d answers", strings.Count(got, "\n"))
	}
}
