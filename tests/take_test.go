package tests

import (
	"math/rand"
	"testing"

	"loop.example/kilnwind/impl"
)

func TestTakeLimits(t *testing.T) {
	if impl.MaxReady != 4 || impl.Window != 8 {
		t.Error("the limits are not those of the document")
	}
}

func TestValidTake(t *testing.T) {
	last := func(seq, size int) []impl.Held {
		return []impl.Held{{Seq: seq, Part: impl.Part{Text: letters(size), Last: true}}}
	}
	full := []string{letters(200), letters(200), letters(200), letters(200)}
	cases := map[string]impl.Take{
		"nothing":                              {},
		"empty lists":                          {Held: []impl.Held{}, Ready: []string{}},
		"Next 1000000":                         {Next: 1000000},
		"Next 1000000 with the rest":           {Next: 1000000, Open: letters(200), Ready: full},
		"Held at all places but Next":          {Held: heldAt(1, 2, 3, 4, 5, 6, 7)},
		"Held at Next + 7":                     {Next: 13, Held: heldAt(20)},
		"Held at 999999":                       {Next: 999992, Held: heldAt(999999)},
		"Held at 999999 behind Next":           {Next: 999998, Held: heldAt(999999)},
		"a Part of 20 bytes":                   {Held: last(1, 20)},
		"an empty Part":                        {Held: last(1, 0)},
		"Open of 200 bytes":                    {Open: letters(200)},
		"Ready of 200 bytes each":              {Ready: full},
		"four empty Ready":                     {Ready: make([]string, 4)},
		"a last Held that must wait":           {Held: last(0, 1), Ready: fourReady()},
		"a last Held at 999999 that must wait": {Next: 999999, Held: last(999999, 0), Ready: fourReady()},
		"all eight Held":                       {Held: append(last(0, 0), heldAt(1, 2, 3, 4, 5, 6, 7)...), Ready: fourReady()},
		"one byte too much behind Open":        {Next: 20, Open: letters(181), Held: heldAt(20)},
		"a last one too much behind Open":      {Open: letters(200), Held: last(0, 1)},
	}
	for what, take := range cases {
		if !impl.ValidTake(take) {
			t.Errorf("%s: not valid", what)
		}
		next, mask := wantTold(take)
		if n, m := impl.TakeWord(take); n != next || m != mask {
			t.Errorf("%s: TakeWord gives %d, %d, not %d, %d", what, n, m, next, mask)
		}
		partStays(t, take, 1<<63-1, impl.Part{})
	}
}

func TestWrongTakes(t *testing.T) {
	for what, take := range wrongTakes() {
		if impl.ValidTake(take) {
			t.Errorf("%s: valid", what)
		}
		for _, seq := range []int{-1, 0, 1, 5, 6, 12, 999998, 999999, 1000000, take.Next} {
			if after := impl.TakePart(take, seq, impl.Part{Text: "x", Last: true}); !isNoTake(after) {
				t.Errorf("%s: TakePart at %d gives %+v", what, seq, after)
			}
		}
		if after, message, ok := impl.TakePull(take); ok || message != "" || !isNoTake(after) {
			t.Errorf("%s: TakePull gives %+v, %q, %v", what, after, message, ok)
		}
		if next, mask := impl.TakeWord(take); next != 0 || mask != 0 {
			t.Errorf("%s: TakeWord gives %d, %d", what, next, mask)
		}
	}
}

// A small change of a valid Take makes it wrong in some cases and not in others.
func TestValidTakeOfAnyTake(t *testing.T) {
	source := rand.New(rand.NewSource(11))
	counts := [2]int{}
	for range 20000 {
		take := someTake(source)
		if !impl.ValidTake(take) {
			t.Fatalf("not valid: %+v", take)
		}
		switch at := source.Intn(6); {
		case at == 0:
			take.Next += source.Intn(5) - 2
		case at == 1:
			take.Open = letters(source.Intn(210))
		case at == 2 && len(take.Ready) > 0:
			take.Ready = take.Ready[:source.Intn(len(take.Ready))]
		case len(take.Held) > 0 && at < 5:
			take.Held[source.Intn(len(take.Held))].Seq += source.Intn(5) - 2
		case len(take.Held) > 0:
			take.Held[source.Intn(len(take.Held))].Part = impl.Part{Text: letters(source.Intn(24)), Last: source.Intn(2) == 0}
		}
		want := wantValidTake(take)
		if want {
			counts[0]++
		} else {
			counts[1]++
		}
		if impl.ValidTake(take) != want {
			t.Fatalf("%+v: valid is %v", take, !want)
		}
	}
	if min(counts[0], counts[1]) < 2000 {
		t.Errorf("too few of a sort: %v", counts)
	}
}

func TestTakeWordTellsHeld(t *testing.T) {
	for _, next := range []int{0, 1, 2, 3, 4, 5, 6, 7, 8, 100, 123457, 999992} {
		for mask := range 256 {
			take := impl.Take{Next: next, Ready: fourReady()}
			for place := range 8 {
				if mask>>place&1 == 1 {
					take.Held = append(take.Held, impl.Held{Seq: next + place, Part: impl.Part{Last: true}})
				}
			}
			if n, m := impl.TakeWord(take); n != next || m != mask {
				t.Errorf("Next %d, mask %d: told %d, %d", next, mask, n, m)
			}
		}
	}
}

func TestTakesAreLeft(t *testing.T) {
	source := rand.New(rand.NewSource(12))
	for range 3000 {
		take := someTake(source)
		seq, part := take.Next+source.Intn(9), somePart(source)
		leavesTake(t, "TakePart", take, []string{part.Text}, func(take impl.Take) (impl.Take, string) {
			return impl.TakePart(take, seq, part), ""
		})
		leavesTake(t, "TakePull", take, nil, func(take impl.Take) (impl.Take, string) {
			after, message, _ := impl.TakePull(take)
			return after, message
		})
		leavesTake(t, "TakeWord", take, nil, func(take impl.Take) (impl.Take, string) {
			impl.TakeWord(take)
			return impl.Take{}, ""
		})
	}
	for _, take := range wrongTakes() {
		leavesTake(t, "a wrong Take", take, nil, func(take impl.Take) (impl.Take, string) {
			impl.ValidTake(take)
			after := impl.TakePart(take, take.Next, impl.Part{Last: true})
			impl.TakePull(take)
			return after, ""
		})
	}
}

// Two answers to the same call share nothing either.
func TestTakesShareNothingWithEachOther(t *testing.T) {
	take := impl.Take{Held: heldAt(2, 3), Open: "open", Ready: []string{"one", "two"}}
	first := impl.TakePart(take, 5, impl.Part{Text: "five"})
	want := copyTake(first)
	second := impl.TakePart(take, 5, impl.Part{Text: "five"})
	overwrite(second.Held, impl.Held{Seq: 98})
	overwrite(second.Ready, "over")
	if !equalTakes(first, want) {
		t.Errorf("%+v became %+v", want, first)
	}
}
