package tests

import (
	"math/rand"
	"slices"
	"testing"

	"loop.example/kilnwind/impl"
)

var edgeNexts = []int{0, 1, 7, 8, 13, 500000, 999991, 999992, 999993, 999998, 999999, 1000000}

func TestPartAtEveryNumber(t *testing.T) {
	for _, next := range edgeNexts {
		take := impl.Take{Next: next, Open: "o", Ready: []string{"r"}}
		seqs := []int{-1 << 63, -1, 0, 999999, 1000000, 1000001, 1<<63 - 1}
		for seq := next - 10; seq <= next+18; seq++ {
			seqs = append(seqs, seq)
		}
		for _, seq := range seqs {
			part := impl.Part{Text: "part"}
			switch {
			case seq < next || seq > next+7 || seq > 999999:
				partStays(t, take, seq, part)
				partStays(t, take, seq, impl.Part{Last: true})
			case seq == next:
				wantTakePart(t, take, seq, part, impl.Take{Next: next + 1, Open: "opart", Ready: []string{"r"}})
			default:
				wantTakePart(t, take, seq, part, impl.Take{Next: next, Held: []impl.Held{{Seq: seq, Part: part}}, Open: "o", Ready: []string{"r"}})
			}
		}
	}
}

func TestPartWithLastEndsAMessage(t *testing.T) {
	take := impl.Take{Next: 4, Open: "one ", Ready: []string{"r"}}
	wantTakePart(t, take, 4, impl.Part{Text: "two", Last: true}, impl.Take{Next: 5, Ready: []string{"r", "one two"}})
	wantTakePart(t, take, 4, impl.Part{Last: true}, impl.Take{Next: 5, Ready: []string{"r", "one "}})
	wantTakePart(t, impl.Take{}, 0, impl.Part{Last: true}, impl.Take{Next: 1, Ready: []string{""}})
	wantTakePart(t, impl.Take{}, 0, impl.Part{}, impl.Take{Next: 1})
	wantTakePart(t, impl.Take{Next: 999999}, 999999, impl.Part{Text: "end", Last: true}, impl.Take{Next: 1000000, Ready: []string{"end"}})
}

func TestPartSizeTaken(t *testing.T) {
	for _, last := range []bool{false, true} {
		for _, size := range []int{0, 1, 19, 20} {
			for _, seq := range []int{0, 1, 7} {
				part := impl.Part{Text: letters(size), Last: last}
				wantTakePart(t, impl.Take{}, seq, part, wantPart(impl.Take{}, seq, part))
			}
		}
		for _, size := range []int{21, 22, 40, 276, 65536} {
			for seq := range 8 {
				partStays(t, impl.Take{}, seq, impl.Part{Text: letters(size), Last: last})
				partStays(t, impl.Take{Open: "o", Ready: fourReady()}, seq, impl.Part{Text: letters(size), Last: last})
			}
		}
	}
}

// A part that is there, or was taken in, is not taken again, whatever it brings then.
func TestPartAgain(t *testing.T) {
	standing := []impl.Held{{Seq: 9, Part: impl.Part{Text: "x", Last: true}}}
	takes := []impl.Take{
		{Next: 9, Held: heldAt(10, 12, 16), Open: "open"},
		{Next: 9, Held: append(standing, heldAt(10, 16)...), Ready: fourReady()},
		{Next: 9, Held: standing, Open: letters(200)},
		{Next: 999998, Held: heldAt(999999)},
	}
	parts := []impl.Part{{}, {Last: true}, {Text: "other"}, {Text: letters(20), Last: true}}
	for _, take := range takes {
		for _, part := range parts {
			for _, held := range take.Held {
				partStays(t, take, held.Seq, held.Part)
				partStays(t, take, held.Seq, part)
			}
			for seq := take.Next - 9; seq < take.Next; seq++ {
				partStays(t, take, seq, part)
			}
		}
	}
}

// What waits is taken in as soon as what is in front of it has come.
func TestPartFillsAGap(t *testing.T) {
	take := impl.Take{Next: 6, Open: "a", Held: []impl.Held{
		{Seq: 7, Part: impl.Part{Text: "c", Last: true}}, {Seq: 8, Part: impl.Part{Text: "d"}}, {Seq: 10, Part: impl.Part{Text: "f"}}, {Seq: 13, Part: impl.Part{Text: "g"}}}}
	wantTakePart(t, take, 6, impl.Part{Text: "b"}, impl.Take{Next: 9, Open: "d", Held: take.Held[2:], Ready: []string{"abc"}})
	wantTakePart(t, take, 6, impl.Part{Text: "b", Last: true}, impl.Take{Next: 9, Open: "d", Held: take.Held[2:], Ready: []string{"ab", "c"}})
	wantTakePart(t, take, 9, impl.Part{Text: "e"}, impl.Take{Next: 6, Open: "a", Held: slices.Insert(slices.Clone(take.Held), 2, impl.Held{Seq: 9, Part: impl.Part{Text: "e"}})})
	all := impl.Take{Next: 999992, Held: heldAt(999993, 999994, 999995, 999996, 999997, 999998, 999999)}
	after := impl.TakePart(all, 999992, impl.Part{Last: true})
	if after.Next != 1000000 || len(after.Held) != 0 || !slices.Equal(after.Ready, []string{""}) {
		t.Errorf("%+v", after)
	}
}

// Open and the next text together have 200 bytes at most; what would be more stands still.
func TestPartAndOpenTogether(t *testing.T) {
	for open := 175; open <= 200; open++ {
		for size := 0; size <= 20; size++ {
			for _, last := range []bool{false, true} {
				take := impl.Take{Next: 3, Open: letters(open)}
				part := impl.Part{Text: letters(size), Last: last}
				want := impl.Take{Next: 3, Open: take.Open, Held: []impl.Held{{Seq: 3, Part: part}}}
				switch whole := take.Open + part.Text; {
				case open+size > 200:
				case last:
					want = impl.Take{Next: 4, Ready: []string{whole}}
				default:
					want = impl.Take{Next: 4, Open: whole}
				}
				wantTakePart(t, take, 3, part, want)
			}
		}
	}
}

func TestPartThatStandsStill(t *testing.T) {
	still := impl.Held{Seq: 3, Part: impl.Part{Text: "no room"}}
	take := impl.Take{Next: 3, Open: letters(194), Held: []impl.Held{still}}
	for seq := 4; seq <= 10; seq++ {
		part := impl.Part{Text: "b", Last: true}
		wantTakePart(t, take, seq, part, impl.Take{Next: 3, Open: take.Open, Held: []impl.Held{still, {Seq: seq, Part: part}}})
	}
	partStays(t, take, 11, impl.Part{})
	take.Ready = []string{"a"}
	wantTakePull(t, take, impl.Take{Next: 3, Open: take.Open, Held: take.Held}, "a", true)
}

// With four messages Ready a part with Last must wait, and one without need not.
func TestPartWhileReadyIsFull(t *testing.T) {
	for count := 0; count <= 4; count++ {
		ready := fourReady()[:count]
		take := impl.Take{Next: 8, Open: "o", Ready: ready}
		wantTakePart(t, take, 8, impl.Part{Text: "p"}, impl.Take{Next: 9, Open: "op", Ready: ready})
		part := impl.Part{Text: "p", Last: true}
		if count < 4 {
			wantTakePart(t, take, 8, part, impl.Take{Next: 9, Ready: append(slices.Clone(ready), "op")})
			continue
		}
		wantTakePart(t, take, 8, part, impl.Take{Next: 8, Open: "o", Ready: ready, Held: []impl.Held{{Seq: 8, Part: part}}})
	}
	take := impl.Take{Held: []impl.Held{{Seq: 1, Part: impl.Part{Last: true}}, {Seq: 2, Part: impl.Part{Last: true}}}, Ready: []string{"a", "b"}}
	after := impl.TakePart(take, 0, impl.Part{Text: "c", Last: true})
	want := impl.Take{Next: 2, Held: []impl.Held{{Seq: 2, Part: impl.Part{Last: true}}}, Ready: []string{"a", "b", "c", ""}}
	if !equalTakes(after, want) {
		t.Errorf("%+v, not %+v", after, want)
	}
}

func TestPartOfAnyTake(t *testing.T) {
	source := rand.New(rand.NewSource(13))
	for range 5000 {
		take := someTake(source)
		for seq := take.Next - 2; seq <= take.Next+9; seq++ {
			part := somePart(source)
			wantTakePart(t, take, seq, part, wantPart(take, seq, part))
		}
		next, mask := wantTold(take)
		if n, m := impl.TakeWord(take); n != next || m != mask {
			t.Fatalf("TakeWord(%+v) = %d, %d, not %d, %d", take, n, m, next, mask)
		}
	}
}
