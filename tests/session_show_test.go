package tests

import (
	"strconv"
	"strings"
	"testing"
)

func TestSessionShowsLivesAndPeers(t *testing.T) {
	for _, of := range []struct{ lines, want string }{
		{"show", "1 0 0 0, 1 0 0 0 right"},
		{"tick/show", "1 0 0 0, 1 0 0 0 right"},
		{"calm 6 1/show", "1 1 0 0, 1 1 0 0 right idle"},
		{"calm 5 1/show", "1 0 0 0, 1 0 0 0 right"},
		{"fall 1/show", "down 1, 1 0 0 0 right"},
		{"fall 2/show", "1 0 0 0, down 1 right"},
		{"fall 1/fall 2/show", "down 1, down 1 right"},
		{"fall 1/fall 1/show", "down 1, 1 0 0 0 right"},
		{"fall 1/rise 1/show", "2 0 0 0, 1 0 0 0 right"},
		{"fall 2/rise 2/fall 2/rise 2/show", "1 0 0 0, 3 0 0 0 right"},
		{"rise 1/rise 2/show", "1 0 0 0, 1 0 0 0 right"},
		{"fall 2/rise 2/fall 2/show", "1 0 0 0, down 2 right"},
		{"calm 7 1/fall 1/show", "down 1, 1 1 0 0 right"},
		{"calm 7 1/fall 1/rise 1/show", "2 0 0 0, 1 1 0 0 right"},
		{"calm 7 1/fall 1/rise 1/calm 7 1/show", "2 1 0 0, 1 2 0 0 right idle"},
		{"calm 7 1/fall 2/rise 2/calm 7 1/show", "1 2 0 0, 2 1 0 0 right idle"},
		{"fall 2/calm 50 1/show", "1 0 0 0, down 1 right"},
		{"tick/tick/tick/tick/tick/tick/bring 0/show", "1 0 0 0, 1 1 0 0 right"},
		{"tick/tick/tick/tick/tick/tick/bring 1/show", "1 1 0 0, 1 0 0 0 right"},
		{"tick/tick/tick/tick/tick/tick/bring 0/bring 0/show", "1 1 0 0, 1 1 0 0 right idle"},
	} {
		wantAnswers(t, strings.Split(of.lines, "/"), of.want)
	}
}

func TestSessionShowsMoreLives(t *testing.T) {
	lines := []string{"calm 7 1"}
	for range 120 {
		lines = append(lines, "fall 2", "rise 2")
	}
	wantAnswers(t, then(lines, "show", "calm 7 1", "show", "fall 2", "show"), "1 1 0 0, 121 0 0 0 right", "0", "1 121 0 0, 121 1 0 0 right idle", "0", "1 121 0 0, down 121 right")
}

func TestSessionShowsItemsAndReady(t *testing.T) {
	x := func(size int) string { return strings.Repeat("x", size) }
	for _, of := range []struct{ lines, want string }{
		{"push 1 x", "1 1 1 0, 1 1 0 0 right"},
		{"push 2 x", "1 1 0 0, 1 1 1 0 right"},
		{"push 1 " + x(20), "1 1 1 0, 1 1 0 0 right"},
		{"push 1 " + x(21), "1 1 2 0, 1 1 0 0 right"},
		{"push 1 " + x(200) + "/push 1 x/push 2 x/push 2 y", "1 1 11 0, 1 1 2 0 right"},
		{"push 1 x/tick/bring 0", "1 1 1 0, 1 1 0 1 right"},
		{"push 2 x/tick/bring 0", "1 1 0 1, 1 1 1 0 right"},
		{"push 1 x/tick/bring 0/pull 2", "1 1 1 0, 1 1 0 0 right"},
		{"push 1 x/tick/bring 0/pull 2/tick/bring 0", "1 1 0 0, 1 1 0 0 right idle"},
		{"push 1 x/tick/bring 0/tick/bring 0", "1 1 0 0, 1 1 0 1 right"},
		{"push 1 x/tick/bring 0/tick/bring 0/pull 2", "1 1 0 0, 1 1 0 0 right idle"},
		{"push 1 " + x(40) + "/tick/bring 0/lose 0/tick/bring 0", "1 1 1 0, 1 1 0 0 right"},
		{"push 1 " + x(40) + "/tick/bring 1/lose 0/tick/bring 0", "1 1 2 0, 1 1 0 0 right"},
		{"push 1 x/fall 2", "1 1 1 0, down 1 right"},
		{"push 1 x/fall 1", "down 1, 1 1 0 0 right"},
		{"push 1 x/tick/fall 1/bring 0", "down 1, 1 1 0 1 right"},
		{"push 1 x/tick/bring 0/fall 2/rise 2", "1 1 1 0, 2 0 0 0 right"},
		{"push 1 x/fall 2/rise 2/calm 9 1", "1 2 0 0, 2 1 0 0 right idle"},
	} {
		lines := then([]string{"calm 7 1"}, strings.Split(of.lines, "/")...)
		wantAnswers(t, then(lines, "show"), of.want)
	}
}

// It is not idle while a part waits or a message is open, though nothing is to be sent and nothing is ready.
func TestSessionShowsWhatIsNotIdle(t *testing.T) {
	word := wantForm(wordTo(2, 0, 0), "k", 8)
	held := wantForm(dataTo(2, 1, "", true), "k", 8)
	lines := then(then([]string{"calm 7 1"}, repeated("tick", 6)...), bends(word, held)...)
	wantAnswers(t, then(lines, "show", "bring 0", "show"), "1 1 0 0, 1 1 0 0 right idle", "1", "1 1 0 0, 1 1 0 0 right forged")
	sent := wantForm(dataTo(2, 0, "x", true), "k", 8)
	open := wantForm(dataTo(2, 0, "x", false), "k", 8)
	lines = then([]string{"calm 7 1", "push 1 x", "tick"}, bends(sent, open)...)
	wantAnswers(t, then(lines, "bring 0", "tick", "bring 0", "show"), "0", "1", "0", "1 1 0 0, 1 1 0 0 right forged")
}

// What is wrong and forged is shown as soon as it is so, and stays so until another world begins.
func TestSessionShowsWrongAndForged(t *testing.T) {
	for _, width := range []int{1, 3, 8} {
		sent := wantForm(dataTo(2, 0, "true", true), "q", width)
		made := wantForm(dataTo(2, 0, "made", true), "q", width)
		lines := then([]string{"world q " + strconv.Itoa(width), "calm 7 1", "push 1 true", "tick"}, bends(sent, made)...)
		steps := []struct{ line, answer, show string }{
			{"bend 0 0 0", "1", "1 1 1 0, 1 1 0 0 right"},
			{"bring 0", "0", "1 1 1 0, 1 1 0 1 right forged"},
			{"pull 2", "got made", "1 1 1 0, 1 1 0 0 wrong forged"},
			{"calm 20 1", "0", "1 1 0 0, 1 1 0 0 wrong idle forged"},
			{"fall 1", "0", "down 1, 1 1 0 0 wrong forged"},
			{"fall 2", "0", "down 1, down 1 wrong forged"},
			{"rise 1", "0", "2 0 0 0, down 1 wrong forged"},
			{"world q 9", "no", "2 0 0 0, down 1 wrong forged"},
			{"world q 8", "ok", "1 0 0 0, 1 0 0 0 right"},
		}
		for _, step := range steps {
			lines = append(lines, step.line)
			wantAnswers(t, then(lines, "show"), step.answer, step.show)
		}
	}
}

// A changed word is forged, and nothing is wrong; by it all is idle, though the part was lost.
func TestSessionShowsRightIdleAndForged(t *testing.T) {
	sent := wantForm(wordTo(1, 0, 0), "k", 8)
	made := wantForm(wordTo(1, 1, 0), "k", 8)
	lines := then([]string{"calm 7 1", "push 1 x"}, repeated("tick", 6)...)
	lines = then(lines, "lose 0", "lose 0", "lose 0")
	wantAnswers(t, then(lines, "show"), "1", "1 1 1 0, 1 1 0 0 right")
	lines = then(lines, bends(sent, made)...)
	wantAnswers(t, then(lines, "bring 0", "show"), "0", "1 1 0 0, 1 1 0 0 right idle forged")
}

// Show changes nothing.
func TestSessionShowChangesNothing(t *testing.T) {
	lines := []string{"show", "calm 7 1", "push 1 one", "tick", "show", "show", "bring 0", "show", "pull 2", "show", "tick", "calm 9 2", "show"}
	var without []string
	for _, line := range lines {
		if line != "show" {
			without = append(without, line)
		}
	}
	var kept []string
	for i, answer := range answers(t, lines...) {
		if lines[i] != "show" {
			kept = append(kept, answer)
		}
	}
	wantAnswers(t, without, kept...)
}
