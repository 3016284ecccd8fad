package tests

import (
	"strconv"
	"strings"
	"testing"

	"loop.example/kilnwind/impl"
)

// brought are the lines that bring what is in flight behind a tick that sends so many parcels.
func brought(count int) []string {
	return append([]string{"tick"}, repeated("bring 0", count)...)
}

// What is pushed is the rest of the line behind the second space, whatever it holds.
func TestSessionPushTexts(t *testing.T) {
	texts := []string{
		"x", "hello", "hello there", "two  beside each other", "a   b    c", " ", "  ", "   ", " at the beginning", "at the end ", " both ", "  two  spaces  ",
		"0", "1", "1 x", "push 1 x", "tick", "code 0", "got x", "bad", "~", "!", "a,b;c", strings.Repeat(" ", 20), strings.Repeat(" ", 200),
		strings.Repeat("z", 19) + " " + strings.Repeat("z", 20), strings.Repeat("ab ", 66) + "ab",
	}
	for _, text := range texts {
		parts := (len(text) + 19) / 20
		for from := 1; from <= 2; from++ {
			lines := []string{"calm 7 1", "push " + strconv.Itoa(from) + " " + text}
			lines = append(lines, brought(min(parts, 8))...)
			if parts > 8 {
				lines = append(lines, brought(parts-8+1)...)
				lines = append(lines, brought(parts-8)...)
			}
			wantAnswers(t, then(lines, "pull "+strconv.Itoa(from), "pull "+strconv.Itoa(3-from), "pull "+strconv.Itoa(3-from)), "code 4", "got "+text, "code 4")
		}
	}
}

// Texts that differ in their spaces alone are not one text.
func TestSessionPushKeepsSpaces(t *testing.T) {
	lines := []string{"calm 7 1", "push 1 a b", "push 1 a  b", "push 1  a b", "push 1 a b "}
	wantAnswers(t, then(then(lines, brought(4)...), repeated("pull 2", 5)...), "got a b", "got a  b", "got  a b", "got a b ", "code 4")
}

func TestSessionPushOfNothing(t *testing.T) {
	for _, line := range []string{"push 1 ", "push 1", "push 2 ", "push 3 ", "push", "push ", "push  ", "push   ", "push x y", "push 01 y", "push 1234567 y", "push -1 y", "push  1 y", " push 1 y", "push\t1 y"} {
		wantAnswers(t, []string{"calm 7 1", line, "show"}, "bad", "1 1 0 0, 1 1 0 0 right idle")
		wantAnswers(t, []string{line}, "bad")
	}
	wantAnswers(t, []string{"calm 7 1", "push 1  ", "show"}, "code 0", "1 1 1 0, 1 1 0 0 right")
}

// Code 1: the message is too long, or there is no such end.
func TestSessionPushWrong(t *testing.T) {
	x := func(size int) string { return strings.Repeat("x", size) }
	wantAnswers(t, []string{"calm 7 1", "push 1 " + x(199), "push 1 " + x(200), "show"}, "code 0", "code 0", "1 1 20 0, 1 1 0 0 right")
	for _, line := range []string{"push 1 " + x(201), "push 2 " + x(201), "push 1 " + x(456), "push 1 " + x(5000), "push 1 " + strings.Repeat(" ", 201)} {
		wantAnswers(t, []string{"calm 7 1", line, "show"}, "code 1", "1 1 0 0, 1 1 0 0 right idle")
	}
	for _, number := range []string{"0", "3", "4", "10", "257", "258", "65537", "999999"} {
		wantAnswers(t, []string{"calm 7 1", "push " + number + " x", "show"}, "code 1", "1 1 0 0, 1 1 0 0 right idle")
		wantAnswers(t, []string{"fall 1", "fall 2", "push " + number + " x", "push " + number + " " + x(201), "show"}, "code 1", "code 1", "down 1, down 1 right")
	}
}

// Code 2: it is not up, or knows of no other; that is looked for ahead of the size.
func TestSessionPushApart(t *testing.T) {
	long := strings.Repeat("x", 201)
	for number := 1; number <= 2; number++ {
		line, n := "push "+strconv.Itoa(number)+" ", strconv.Itoa(number)
		wantAnswers(t, []string{line + "x", line + long, "show"}, "code 2", "code 2", "1 0 0 0, 1 0 0 0 right")
		wantAnswers(t, []string{"calm 7 1", "fall " + n, line + "x", line + long}, "code 2", "code 2")
		wantAnswers(t, []string{"calm 7 1", "fall " + n, "rise " + n, line + "x", line + long}, "code 2", "code 2")
		wantAnswers(t, []string{"calm 7 1", "fall " + n, "rise " + n, "calm 7 1", line + "x"}, "code 0")
		wantAnswers(t, []string{"calm 7 1", "fall " + strconv.Itoa(3-number), line + "x"}, "code 0")
	}
}

// Code 3: there is no room among what the end has to send.
func TestSessionPushFull(t *testing.T) {
	start := then([]string{"calm 7 1"}, repeated("push 1 x", 59)...)
	wantAnswers(t, then(start, "push 1 "+strings.Repeat("x", 21), "push 1 y", "push 1 y", "push 2 y", "show"), "code 3", "code 0", "code 3", "code 0", "1 1 60 0, 1 1 1 0 right")
	whole := strings.Repeat("x", 200)
	start = then([]string{"calm 7 1"}, repeated("push 2 "+whole, 6)...)
	wantAnswers(t, then(start, "push 2 x", "push 2 "+whole+"x", "show"), "code 0", "code 3", "code 1", "1 1 0 0, 1 1 60 0 right")
}

// The code is that of the end also where the world can remember no more, and nothing happens then.
func TestSessionPushUnremembered(t *testing.T) {
	long := strings.Repeat("x", 201)
	start := remembered(400, 50)
	wantAnswers(t, then(start, "show"), "code 0", "1 1 50 0, 1 1 0 0 right")
	wantAnswers(t, then(start, "push 1 y", "push 2 y", "push 1 "+long, "push 2 "+long, "show"), "code 0", "code 0", "code 1", "code 1", "1 1 50 0, 1 1 0 0 right")
	wantAnswers(t, then(start, "push 0 y", "push 3 y", "push 1 "+strings.Repeat("x", 200), "push 1 ", "show"), "code 1", "code 1", "code 0", "bad", "1 1 50 0, 1 1 0 0 right")
	wantAnswers(t, then(start, "fall 2", "push 2 y", "push 2 "+long, "rise 2", "push 2 y", "show"), "code 2", "code 2", "0", "code 2", "1 1 50 0, 2 0 0 0 right")
	start = remembered(400, 60)
	wantAnswers(t, then(start, "push 1 y", "push 2 y", "push 1 "+long, "show"), "code 3", "code 0", "code 1", "1 1 60 0, 1 1 0 0 right")
	start = remembered(399, 49)
	wantAnswers(t, then(start, "push 2 y", "push 2 y", "push 1 y", "show"), "code 0", "code 0", "code 0", "1 1 49 0, 1 1 1 0 right")
}

// What was pushed while the world could remember no more is never taken.
func TestSessionPushUnrememberedIsGone(t *testing.T) {
	lines := then(remembered(400, 2), "push 1 gone", "push 2 gone", "tick", "bring 0", "bring 0", "bring 0", "pull 1")
	wantAnswers(t, lines, "code 0", "code 0", "2", "1", "0", "0", "code 4")
	wantAnswers(t, then(lines, "show"), "1 1 2 0, 1 1 0 2 right")
}

// Bytes that can't be shown are told as question marks.
func TestSessionPullShowsBytes(t *testing.T) {
	for b := range 256 {
		if b == '\n' {
			continue
		}
		text := "<" + string([]byte{byte(b)}) + ">"
		want := "got " + text
		if b < 32 || b > 126 {
			want = "got <?>"
		}
		lines := append([]string{"calm 7 1", "push 1 " + text}, brought(1)...)
		wantAnswers(t, then(lines, "pull 2", "pull 2"), want, "code 4")
	}
	lines := append([]string{"calm 7 1", "push 2 é\x00\t\x1f\x7f\x80\xff~ ?"}, brought(1)...)
	wantAnswers(t, then(lines, "pull 1"), "got ????????~ ?")
}

// A newline comes into a message by a changed packet alone; the answer is one line all the same.
func TestSessionPullShowsANewlineAsOneByte(t *testing.T) {
	sent := wantForm(dataTo(2, 0, "a b", true), "k", 8)
	made := wantForm(dataTo(2, 0, "a\nb", true), "k", 8)
	lines := then([]string{"calm 7 1", "push 1 a b", "tick"}, bends(sent, made)...)
	wantAnswers(t, then(lines, "bring 0", "pull 2", "show"), "0", "got a?b", "1 1 1 0, 1 1 0 0 wrong forged")
}

// An empty message comes by a changed packet alone.
func TestSessionPullOfAnEmptyMessage(t *testing.T) {
	made := wantForm(dataTo(2, 0, "", true), "k", 8)
	sent := wantForm(dataTo(2, 0, "x", true), "k", 8)[:len(made)]
	lines := then(then([]string{"calm 7 1", "push 1 x", "tick"}, "cut 0 "+strconv.Itoa(len(made))), bends(sent, made)...)
	wantAnswers(t, then(lines, "bring 0", "pull 2", "pull 2"), "0", "got ", "code 4")
}

func TestSessionPullCodes(t *testing.T) {
	for number := 1; number <= 2; number++ {
		n := strconv.Itoa(number)
		wantAnswers(t, []string{"pull " + n, "calm 7 1", "pull " + n}, "code 4", "0", "code 4")
		wantAnswers(t, []string{"fall " + n, "pull " + n, "rise " + n, "pull " + n}, "0", "code 2", "0", "code 4")
		lines := append([]string{"calm 7 1", "push " + strconv.Itoa(3-number) + " x"}, brought(1)...)
		wantAnswers(t, then(lines, "fall "+n, "pull "+n, "rise "+n, "pull "+n), "0", "code 2", "0", "code 4")
		wantAnswers(t, then(lines, "fall "+strconv.Itoa(3-number), "pull "+n, "pull "+n), "got x", "code 4")
	}
	for _, number := range []string{"0", "3", "4", "10", "257", "258", "65537", "999999"} {
		lines := append([]string{"calm 7 1", "push 1 x", "push 2 y"}, brought(2)...)
		wantAnswers(t, then(lines, "pull "+number, "show"), "code 1", "1 1 1 1, 1 1 1 1 right")
		wantAnswers(t, []string{"fall 1", "fall 2", "pull " + number}, "code 1")
	}
}

// A pull that makes another message ready is one pull.
func TestSessionPullsOneByOne(t *testing.T) {
	lines := []string{"calm 7 1"}
	for i := range 6 {
		lines = append(lines, "push 1 m"+strconv.Itoa(i))
	}
	lines = append(lines, brought(6)...)
	wantAnswers(t, then(lines, "show"), "1 1 6 0, 1 1 0 4 right")
	for i := range 6 {
		lines = append(lines, "pull 2")
		wantAnswers(t, lines, "got m"+strconv.Itoa(i))
		wantAnswers(t, then(lines, "show"), "1 1 6 0, 1 1 0 "+strconv.Itoa(min(4, 5-i))+" right")
	}
	wantAnswers(t, then(lines, "pull 2"), "code 4")
}

// Where the world can remember no more, the end is asked all the same: the message is told, and stays where it is.
func TestSessionPullUnremembered(t *testing.T) {
	start := then(remembered(399, 1), "push 1 y", "tick", "bring 0", "bring 0")
	if got := lastAnswer(t, then(start, "show")...); got != "1 1 2 0, 1 1 0 2 right" {
		t.Fatal(got)
	}
	wantAnswers(t, then(start, "pull 2", "pull 2", "pull 1", "pull 3", "show"), "got x", "got x", "code 4", "code 1", "1 1 2 0, 1 1 0 2 right")
	wantAnswers(t, then(start, "fall 2", "pull 2", "fall 1", "pull 1", "show"), "code 2", "0", "code 2", "down 1, down 1 right")
	// With room for one record more, the first pull happens and the second does not.
	start = then(remembered(397, 1), "push 1 y", "push 1 z", "tick", "bring 0", "bring 0", "bring 0")
	wantAnswers(t, then(start, "show", "pull 2", "show", "pull 2", "pull 2", "show"), "1 1 3 0, 1 1 0 3 right", "got x", "1 1 3 0, 1 1 0 2 right", "got y", "got y", "1 1 3 0, 1 1 0 2 right")
}

// A calm takes nothing where the world can remember no more.
func TestSessionCalmUnremembered(t *testing.T) {
	start := remembered(400, 6)
	wantAnswers(t, then(start, "calm 200 1", "show", "pull 2", "calm 200 1", "show"), "0", "1 1 2 0, 1 1 0 4 right", "got x", "0", "1 1 2 0, 1 1 0 4 right")
}

// The lines that fill what a world remembers do so: otherwise the tests above would tell too little.
func TestSessionRemembered(t *testing.T) {
	for _, of := range [][2]int{{400, 0}, {400, 50}, {400, 60}, {399, 49}, {399, 1}, {397, 1}, {400, 6}, {400, 2}} {
		m := newModelSession()
		for _, line := range remembered(of[0], of[1]) {
			m.answer(line)
		}
		if w := m.world; len(w.Given)+len(w.Taken) != of[0] || len(w.Ends[0].Send.Items) != of[1] || !impl.ValidWorld(w) {
			t.Errorf("%v: %d given, %d taken, %d unsent", of, len(w.Given), len(w.Taken), len(w.Ends[0].Send.Items))
		}
	}
}
