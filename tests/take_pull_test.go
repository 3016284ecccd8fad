package tests

import (
	"math/rand"
	"testing"

	"loop.example/kilnwind/impl"
)

func TestPullGivesTheFirst(t *testing.T) {
	take := impl.Take{Next: 9, Open: "open", Held: heldAt(11, 16), Ready: fourReady()}
	for _, message := range fourReady() {
		want := impl.Take{Next: 9, Open: "open", Held: take.Held, Ready: take.Ready[1:]}
		wantTakePull(t, take, want, message, true)
		take = want
	}
	wantTakePull(t, take, take, "", false)
}

func TestPullWithNothingReady(t *testing.T) {
	still := []impl.Held{{Seq: 7, Part: impl.Part{Text: "x", Last: true}}, {Seq: 9}}
	for _, take := range []impl.Take{
		{},
		{Next: 1000000},
		{Next: 12, Open: "open", Held: heldAt(13, 15, 19)},
		{Next: 7, Open: letters(200), Held: still},
	} {
		wantTakePull(t, take, take, "", false)
		wantTakePull(t, impl.Take{Next: take.Next, Open: take.Open, Held: take.Held, Ready: []string{}}, take, "", false)
	}
}

func TestPullOfAnEmptyMessage(t *testing.T) {
	wantTakePull(t, impl.Take{Ready: []string{""}}, impl.Take{}, "", true)
	wantTakePull(t, impl.Take{Ready: []string{"", "b"}}, impl.Take{Ready: []string{"b"}}, "", true)
}

// Where a message is pulled, one that had to wait comes in, and what is behind it up to the next that must wait.
func TestPullLetsMoreIn(t *testing.T) {
	part := func(seq int, text string, last bool) impl.Held {
		return impl.Held{Seq: seq, Part: impl.Part{Text: text, Last: last}}
	}
	held := []impl.Held{part(20, "a", true), part(21, "b", false), part(22, "c", false), part(23, "d", true), part(24, "e", true), part(27, "f", true)}
	take := impl.Take{Next: 20, Open: "o", Held: held, Ready: []string{"1", "2", "3", "4"}}
	steps := []impl.Take{
		{Next: 23, Open: "bc", Held: held[3:], Ready: []string{"2", "3", "4", "oa"}},
		{Next: 24, Held: held[4:], Ready: []string{"3", "4", "oa", "bcd"}},
		{Next: 25, Held: held[5:], Ready: []string{"4", "oa", "bcd", "e"}},
		{Next: 25, Held: held[5:], Ready: []string{"oa", "bcd", "e"}},
		{Next: 25, Held: held[5:], Ready: []string{"bcd", "e"}},
		{Next: 25, Held: held[5:], Ready: []string{"e"}},
		{Next: 25, Held: held[5:]},
	}
	for i, message := range []string{"1", "2", "3", "4", "oa", "bcd", "e"} {
		wantTakePull(t, take, steps[i], message, true)
		take = steps[i]
	}
	wantTakePull(t, take, take, "", false)
}

func TestPullAtTheLastNumber(t *testing.T) {
	held := []impl.Held{{Seq: 999999, Part: impl.Part{Text: "end", Last: true}}}
	take := impl.Take{Next: 999999, Held: held, Ready: []string{"1", "2", "3", "4"}}
	wantTakePull(t, take, impl.Take{Next: 1000000, Ready: []string{"2", "3", "4", "end"}}, "1", true)
}

// A pull lets in no part that would make a message too long, and one that would not.
func TestPullAndOpenTogether(t *testing.T) {
	for _, last := range []bool{false, true} {
		for open := 185; open <= 200; open++ {
			take := impl.Take{Next: 5, Open: letters(open), Ready: []string{"1", "2", "3", "4"}}
			take.Held = []impl.Held{{Seq: 5, Part: impl.Part{Text: "0123456789", Last: last}}, {Seq: 6}}
			if !wantValidTake(take) {
				continue
			}
			want, message, ok := wantPull(take)
			if moved := want.Next != 5; moved != (open <= 190) {
				t.Errorf("Open of %d bytes: Next is %d", open, want.Next)
			}
			wantTakePull(t, take, want, message, ok)
		}
	}
}

func TestPullOfAnyTake(t *testing.T) {
	source := rand.New(rand.NewSource(14))
	for range 20000 {
		take := someTake(source)
		want, message, ok := wantPull(take)
		wantTakePull(t, take, want, message, ok)
	}
}
