package tests

import (
	"strconv"
	"strings"
	"testing"

	"loop.example/kilnwind/impl"
)

// answered fails unless a session is answered so.
func answered(t *testing.T, session, want string) {
	t.Helper()
	if got := impl.Session(session); got != want {
		t.Errorf("%q: %q, not %q", cutShort(session), cutShort(got), cutShort(want))
	}
	if got := wantSession(session); got != want {
		t.Errorf("%q: the model says %q, not %q", cutShort(session), cutShort(got), cutShort(want))
	}
}

func TestSessionExample(t *testing.T) {
	lines := []string{"push 1 early", "calm 7 1", "show", "push 1 hello there", "tick", "lose 0", "calm 12 1", "pull 2", "show"}
	want := []string{"code 2", "0", "1 1 0 0, 1 1 0 0 right idle", "code 0", "1", "0", "0", "code 4", "1 1 0 0, 1 1 0 0 right idle"}
	answered(t, ofLines(lines...), ofLines(want...))
	answered(t, strings.Join(lines, "\n"), ofLines(want...))
}

func TestSessionLinesAreCutAtNewlines(t *testing.T) {
	answered(t, "", "")
	answered(t, "\n", "bad\n")
	answered(t, "\n\n\n", "bad\nbad\nbad\n")
	answered(t, "tick", "0\n")
	answered(t, "tick\n", "0\n")
	answered(t, "tick\n\n", "0\nbad\n")
	answered(t, "\ntick", "bad\n0\n")
	answered(t, "\n\ntick\n", "bad\nbad\n0\n")
	answered(t, "tick\ntick", "0\n0\n")
	answered(t, "tick\n ", "0\nbad\n")
	answered(t, "tick\r\ntick\r\n", "bad\nbad\n")
	answered(t, "tick\rtick", "bad\n")
	answered(t, "tick\x00", "bad\n")
	answered(t, "tick\u2028tick", "bad\n")
}

func TestSessionLimitsAreThoseOfTheDocument(t *testing.T) {
	if impl.MaxSession != 20000 || impl.MaxLines != 400 {
		t.Errorf("%d bytes, %d lines", impl.MaxSession, impl.MaxLines)
	}
}

func TestSessionOfManyBytes(t *testing.T) {
	x := func(size int) string { return strings.Repeat("x", size) }
	answered(t, x(19999), "bad\n")
	answered(t, x(20000), "bad\n")
	answered(t, x(20001), "too long\n")
	answered(t, x(19999)+"\n", "bad\n")
	answered(t, x(20000)+"\n", "too long\n")
	answered(t, "tick\n"+x(19995), "0\nbad\n")
	answered(t, "tick\n"+x(19996), "too long\n")
	answered(t, "tick\n"+x(19994)+"\n", "0\nbad\n")
	answered(t, "push 1 "+x(19993), "code 2\n")
	answered(t, "push 1 "+x(19994), "too long\n")
	answered(t, strings.Repeat(" ", 20000), "bad\n")
	answered(t, strings.Repeat(" ", 20001), "too long\n")
	answered(t, strings.Repeat("é", 10000), "bad\n")
	answered(t, strings.Repeat("é", 10000)+"e", "too long\n")
	answered(t, x(5000000), "too long\n")
	answered(t, strings.Repeat("tick\n", 1000000), "too long\n")
}

func TestSessionOfManyLines(t *testing.T) {
	for _, of := range []struct{ line, answer string }{{"", "bad\n"}, {"x", "bad\n"}, {"fall 3", "0\n"}, {"world k 8", "ok\n"}} {
		some := func(count int) string { return strings.Repeat(of.line+"\n", count) }
		answered(t, some(399), strings.Repeat(of.answer, 399))
		answered(t, some(400), strings.Repeat(of.answer, 400))
		answered(t, some(401), "too long\n")
		answered(t, some(399)+"x", strings.Repeat(of.answer, 399)+"bad\n")
		answered(t, some(400)+"x", "too long\n")
		answered(t, some(400)+" ", "too long\n")
		answered(t, some(400)+"\n", "too long\n")
		answered(t, some(399)+"\n", strings.Repeat(of.answer, 399)+"bad\n")
		answered(t, some(4000), "too long\n")
	}
	answered(t, strings.Repeat("\n", 20001), "too long\n")
	line := strings.Repeat("x", 49)
	answered(t, strings.Repeat(line+"\n", 400), strings.Repeat("bad\n", 400))
	answered(t, strings.Repeat(line+"\n", 399)+line+"xx", "too long\n")
}

func TestSessionLinesThatAreNone(t *testing.T) {
	none := []string{
		" ", "  ", "\t", "look", "ticks", "tic", "Tick", "TICK", "tick\t", "\ttick", "tick,", "bring", "bring0", "bring\t0", "show me",
		"push1 x", "world", "world k", "worldk 8", "calm", "calm 1", "0", "1", "code 0", "ok", "no", "bad", "too long", "got x", "send 1 x",
		"\xff", "\x00", "push\x00 1 x", "evtick", "1 tick", "tick tick", "tick;tick", "quit", "help", "push", "pull", "bend", "cut", "turn",
	}
	for _, line := range none {
		answered(t, line, "bad\n")
		wantAnswers(t, []string{"calm 7 1", "push 1 x", line, "show"}, "code 0", "bad", "1 1 1 0, 1 1 0 0 right")
	}
}

// goodLines are lines of each kind whose words may be too many or too few.
func goodLines() []string {
	return []string{
		"world k 8", "tick", "bring 0", "double 0", "lose 0", "bend 0 1 2", "cut 0 1", "turn 0", "fall 1", "rise 1", "pull 1", "calm 1 1", "show",
	}
}

// lively are lines behind which something is in flight, and end 2 has something that is ready.
func lively() []string {
	return []string{"calm 7 1", "push 1 one", "tick", "double 0", "bring 0", "push 2 two"}
}

// badLine fails unless a line is bad, and leaves all as it is.
func badLine(t *testing.T, line string) {
	t.Helper()
	wantAnswers(t, then(lively(), line, "show", "fall 3"), "bad", "1 1 1 0, 1 1 1 1 right", "1")
}

func TestSessionSpacesTooMany(t *testing.T) {
	for _, line := range append(goodLines(), "push 1 x") {
		if got := lastAnswer(t, then(lively(), line)...); got == "bad" {
			t.Errorf("%q: bad", line)
		}
		badLine(t, " "+line)
		badLine(t, "  "+line)
		badLine(t, strings.Replace(line, " ", "\t", 1)+"\t")
	}
	for _, line := range goodLines() {
		badLine(t, line+" ")
		badLine(t, line+"  ")
		words := strings.Split(line, " ")
		for i := 1; i < len(words); i++ {
			badLine(t, strings.Join(words[:i], " ")+"  "+strings.Join(words[i:], " "))
			badLine(t, strings.Join(words[:i], " ")+strings.Join(words[i:], " "))
		}
	}
	badLine(t, "push  1 x")
	badLine(t, "push  1")
	badLine(t, "push  ")
	badLine(t, "push ")
	badLine(t, "push   x")
}

func TestSessionWordsTooManyOrTooFew(t *testing.T) {
	for _, line := range goodLines() {
		for _, word := range []string{"0", "1", "x", line, "tick"} {
			badLine(t, line+" "+word)
			badLine(t, line+" "+word+" "+word)
		}
		if at := strings.LastIndex(line, " "); at >= 0 {
			badLine(t, line[:at])
			badLine(t, line[:at]+" ")
			badLine(t, line[:strings.Index(line, " ")])
		}
	}
}

// wordsNoNumber are words that are no decimals of at most six digits without needless zeros.
func wordsNoNumber() []string {
	return []string{
		"", "00", "01", "000000", "000001", "0000000", "0000001", "+1", "-1", "-0", "+0", "1000000", "1234567", "9999999", "4294967297",
		"18446744073709551617", "99999999999999999999999999", "1.0", "1.", ".1", "1e1", "1e0", "0x1", "0b1", "0o1", "1_0", "1,0", "x", "1x", "x1", "a",
		"N", "1\t", "\t1", "1\x00", "\x001", "1\r", "\u0663", "\uff11", "\u00b2", "1\u00a0", "\xff", "one", "--1", "1-", "1+1", "(1)", "\"1\"", "nan", "/", ":",
	}
}

// wordsNumber are decimals, the least and the greatest ones among them.
func wordsNumber() []string {
	return []string{"0", "1", "2", "7", "9", "10", "99", "100", "255", "256", "999", "1000", "99999", "100000", "999999"}
}

// linesWithAStar are lines of each kind with a star at the place of a number.
func linesWithAStar() []string {
	return []string{
		"world k *", "bring *", "double *", "lose *", "bend * 0 0", "bend 0 * 0", "bend 0 0 *", "cut * 0", "cut 0 *", "turn *", "fall *", "rise *",
		"push * x", "pull *", "calm * 1", "calm 1 *",
	}
}

func TestSessionNumbers(t *testing.T) {
	for _, line := range linesWithAStar() {
		for _, word := range wordsNoNumber() {
			badLine(t, strings.Replace(line, "*", word, 1))
		}
		for _, word := range wordsNumber() {
			if got := lastAnswer(t, then(lively(), strings.Replace(line, "*", word, 1))...); got == "bad" {
				t.Errorf("%s in %q: bad", word, line)
			}
		}
	}
}

// Every number of at most four digits is one, and written otherwise it is none.
func TestSessionEveryNumber(t *testing.T) {
	for from := 0; from < 10000; from += 125 {
		var good, padded []string
		for number := from; number < from+125; number++ {
			good = append(good, "bring "+strconv.Itoa(number), "bring "+strconv.Itoa(number*100+99))
			padded = append(padded, "bring 0"+strconv.Itoa(number), "bring "+strconv.Itoa(number+1000000))
		}
		answered(t, ofLines(good...), strings.Repeat("0\n", len(good)))
		answered(t, ofLines(padded...), strings.Repeat("bad\n", len(padded)))
	}
}

// An event finds nothing where there is no such parcel or end; the answer is the number in flight all the same.
func TestSessionEventsThatFindNothing(t *testing.T) {
	none := []string{
		"bring 2", "bring 999999", "double 2", "double 999999", "lose 2", "bend 2 0 1", "bend 0 99 1", "bend 0 999999 1", "cut 2 0", "cut 0 99",
		"cut 0 999999", "turn 2", "turn 999999", "fall 0", "fall 3", "fall 999999", "rise 0", "rise 3", "rise 1", "rise 2",
	}
	start := []string{"calm 7 1", "push 1 one", "push 2 two", "tick"}
	behind := []string{"show", "bring 0", "bring 0", "show", "pull 1", "pull 2"}
	want := answers(t, then(start, behind...)...)[len(start):]
	for _, line := range none {
		wantAnswers(t, then(start, append([]string{line}, behind...)...), append([]string{"2"}, want...)...)
	}
	if want[4] != "got two" || want[5] != "got one" {
		t.Errorf("%q", want)
	}
}

// What each event does is seen in the lines behind it.
func TestSessionEvents(t *testing.T) {
	start := []string{"calm 7 1", "push 1 one", "push 1 two", "tick"}
	wantAnswers(t, start, "0", "code 0", "code 0", "2")
	for _, of := range []struct{ lines, want string }{
		{"bring 0/pull 2/pull 2", "1/got one/code 4"},
		{"bring 1/pull 2/bring 0/pull 2/pull 2", "1/code 4/0/got one/got two"},
		{"bring 0/bring 0/pull 2/pull 2", "1/0/got one/got two"},
		{"double 0/bring 0/bring 1/pull 2/pull 2", "3/2/1/got one/code 4"},
		{"double 1/lose 1/bring 0/bring 0/pull 2/pull 2", "3/2/1/0/got one/got two"},
		{"lose 0/bring 0/pull 2", "1/0/code 4"},
		{"lose 1/bring 0/pull 2/pull 2", "1/0/got one/code 4"},
		{"lose 0/lose 0/lose 0/show", "1/0/0/1 1 2 0, 1 1 0 0 right"},
		{"bend 0 0 1/bring 0/pull 2", "2/1/code 4"},
		{"bend 0 0 256/bring 0/pull 2", "2/1/got one"},
		{"bend 0 0 257/bring 0/pull 2", "2/1/code 4"},
		{"bend 0 0 0/bring 0/pull 2", "2/1/got one"},
		{"bend 0 3 7/bend 0 3 7/bring 0/pull 2", "2/2/1/got one"},
		{"bend 0 3 7/bend 0 3 519/bring 0/pull 2", "2/2/1/got one"},
		{"bend 0 3 7/bend 0 7 3/bring 0/pull 2", "2/2/1/code 4"},
		{"bend 1 3 7/bring 0/pull 2", "2/1/got one"},
		{"cut 0 21/bring 0/pull 2", "2/1/code 4"},
		{"cut 0 22/bring 0/pull 2", "2/1/got one"},
		{"cut 0 0/bring 0/pull 2", "2/1/code 4"},
		{"cut 1 0/bring 0/pull 2", "2/1/got one"},
		{"turn 0/bring 0/pull 2/pull 1", "2/1/code 4/code 4"},
		{"turn 0/turn 0/bring 0/pull 2", "2/2/1/got one"},
		{"turn 1/bring 0/pull 2", "2/1/got one"},
		{"fall 1/show", "2/down 1, 1 1 0 0 right"},
		{"fall 2/show", "2/1 1 2 0, down 1 right"},
		{"fall 2/rise 2/show", "2/2/1 1 2 0, 2 0 0 0 right"},
		{"fall 2/bring 0/pull 2", "2/1/code 2"},
		{"tick/tick/tick/tick", "2/2/2/4"},
	} {
		wantAnswers(t, then(start, strings.Split(of.lines, "/")...), strings.Split(of.want, "/")...)
	}
}

// The flight has no more parcels than it may, whether they come by ticks or by doubling.
func TestSessionFullFlight(t *testing.T) {
	lines := []string{"calm 7 1"}
	for range 16 {
		lines = append(lines, "push 1 x", "push 2 y")
	}
	lines = append(lines, repeated("tick", 215)...)
	before := parsed(lastAnswer(t, lines...))
	if before < 900 || before > 999 {
		t.Fatalf("%d in flight: the test tells too little", before)
	}
	lines = append(lines, repeated("double 0", 999-before)...)
	wantAnswers(t, then(lines, "double 0", "double 0", "tick", "lose 0", "double 5", "double 6"), "1000", "1000", "1000", "999", "1000", "1000")
	wantAnswers(t, then(lines, "tick", "tick", "tick", "tick"), "1000")
}

func TestSessionWorld(t *testing.T) {
	start := []string{"calm 7 1", "push 1 one", "tick"}
	for width := 1; width <= 8; width++ {
		for _, key := range []string{"k", "K", "key", "8", "world", "\x00", "\xff\xfe", strings.Repeat("z", 30)} {
			line := "world " + key + " " + strconv.Itoa(width)
			wantAnswers(t, then(start, line, "show", "fall 3", "calm 7 1", "show"), "ok", "1 0 0 0, 1 0 0 0 right", "0", "0", "1 1 0 0, 1 1 0 0 right idle")
		}
	}
	for _, line := range []string{"world k 0", "world k 9", "world k 10", "world k 999999", "world " + strings.Repeat("z", 31) + " 8", "world " + strings.Repeat("z", 286) + " 1"} {
		wantAnswers(t, then(start, line, "show", "bring 0", "pull 2"), "no", "1 1 1 0, 1 1 0 0 right", "0", "got one")
	}
	for _, line := range []string{"world", "world ", "world k", "world 8", "world k ", "world  8", "world k x", "world k 08", "world k 1234567", "world k k 8", "world k 8 8", "world k  8"} {
		wantAnswers(t, then(start, line, "show", "bring 0", "pull 2"), "bad", "1 1 1 0, 1 1 0 0 right", "0", "got one")
	}
}

// A world that begins anew remembers nothing of the one before.
func TestSessionWorldForgets(t *testing.T) {
	lines := then(remembered(400, 60), "push 1 y", "world k 8", "calm 7 1", "push 1 y", "tick", "bring 0", "pull 2", "show")
	wantAnswers(t, lines, "code 3", "ok", "0", "code 0", "1", "0", "got y", "1 1 1 0, 1 1 0 0 right")
}

// The key and the width are those of the line: a packet that is changed into one that bears a tag under these is read,
// and under others it is not.
func TestSessionWorldSeals(t *testing.T) {
	for _, width := range []int{1, 2, 7, 8} {
		for _, key := range []string{"k", "another-key", strings.Repeat("z", 30)} {
			sent := wantForm(dataTo(2, 0, "true", true), key, width)
			made := wantForm(dataTo(2, 0, "made", true), key, width)
			start := []string{"world " + key + " " + strconv.Itoa(width), "calm 7 1", "push 1 true", "tick"}
			lines := then(then(start, bends(sent, made)...), "bring 0", "pull 2", "show")
			wantAnswers(t, lines, "0", "got made", "1 1 1 0, 1 1 0 0 wrong forged")
			if width == 1 {
				continue
			}
			other := wantForm(dataTo(2, 0, "made", true), key[1:]+"q", width)
			lines = then(then(start, bends(sent, other)...), "bring 0", "pull 2", "show")
			wantAnswers(t, lines, "0", "code 4", "1 1 1 0, 1 1 0 0 right")
		}
	}
}

// The first world is that of the key k and width 8.
func TestSessionFirstWorld(t *testing.T) {
	sent := wantForm(dataTo(2, 0, "true", true), "k", 8)
	made := wantForm(dataTo(2, 0, "made", true), "k", 8)
	start := []string{"calm 7 1", "push 1 true", "tick"}
	wantAnswers(t, then(then(start, bends(sent, made)...), "bring 0", "pull 2"), "0", "got made")
	wantAnswers(t, then(start, "cut 0 23", "bring 0", "pull 2"), "1", "0", "got true")
	wantAnswers(t, then(start, "bend 0 22 1", "bring 0", "pull 2"), "1", "0", "code 4")
	wantAnswers(t, then(start, "bend 0 23 1", "bring 0", "pull 2"), "1", "0", "got true")
	wantAnswers(t, []string{"show"}, "1 0 0 0, 1 0 0 0 right")
}

func TestSessionCalm(t *testing.T) {
	start := []string{"calm 7 1", "push 1 " + strings.Repeat("x", 200), "push 2 y"}
	for _, line := range []string{"calm 201 1", "calm 999999 1", "calm 5 0", "calm 5 11", "calm 5 999999", "calm 201 0", "calm 0 0", "calm 0 11", "calm 201 11", "calm 5 256"} {
		wantAnswers(t, then(start, line, "show"), "no", "1 1 10 0, 1 1 1 0 right")
	}
	for _, line := range []string{"calm 0 1", "calm 0 10"} {
		wantAnswers(t, then(start, line, "show"), "0", "1 1 10 0, 1 1 1 0 right")
	}
	for _, line := range []string{"calm 200 1", "calm 199 10", "calm 200 10", "calm 200 2"} {
		wantAnswers(t, then(start, line, "show"), "0", "1 1 0 0, 1 1 0 0 right idle")
	}
	for _, line := range []string{"calm 1 1", "calm 1 10", "calm 2 1", "calm 3 1"} {
		wantAnswers(t, then(start, line), "0")
	}
	wantAnswers(t, then(start, "calm 1 1", "show"), "0", "1 1 10 0, 1 1 1 0 right")
	wantAnswers(t, then(start, "calm 2 1", "show"), "0", "1 1 2 0, 1 1 0 0 right")
}

// Each calm counts for itself: what is brought every second time is never brought by calms of one round.
func TestSessionCalmsCountForThemselves(t *testing.T) {
	wantAnswers(t, then(repeated("calm 1 2", 30), "show"), "0", "1 0 0 0, 1 0 0 0 right")
	wantAnswers(t, []string{"calm 30 2", "show"}, "0", "1 1 0 0, 1 1 0 0 right idle")
	wantAnswers(t, then(repeated("calm 1 1", 30), "show"), "0", "1 1 0 0, 1 1 0 0 right idle")
}

// All 200 rounds go by, and no more: an end that knows of no other sends a word every six ticks.
func TestSessionCalmRounds(t *testing.T) {
	for _, rounds := range []int{1, 5, 6, 7, 11, 12, 50, 199, 200} {
		lines := []string{"fall 1", "calm " + strconv.Itoa(rounds) + " 1"}
		for left := rounds; ; left++ {
			lines = append(lines, "tick")
			if (left+1)%6 == 0 {
				wantAnswers(t, lines, "1")
				break
			}
			wantAnswers(t, lines, "0")
		}
	}
}

// A session's answer lies in no memory of its text.
func TestSessionAnswersAreNewMemory(t *testing.T) {
	for _, session := range []string{"x", "bad\n", "too long\n", "got x\n", ofLines(lively()...) + "pull 2\nshow\n", strings.Repeat("too long\n", 3000)} {
		newText(t, "a session", impl.Session(session), session)
		newText(t, "a session", session, impl.Session(session))
	}
}
