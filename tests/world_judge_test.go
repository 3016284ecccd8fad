package tests

import (
	"math/rand"
	"testing"

	"loop.example/kilnwind/impl"
)

// said is a record of a talk: from an end, of the lives a and b.
func said(from, a, b int, text string) impl.Record {
	return impl.Record{From: from, A: a, B: b, Text: text}
}

func TestRight(t *testing.T) {
	given := []impl.Record{said(1, 1, 1, "a"), said(2, 1, 1, "x"), said(1, 1, 1, "b"), said(1, 1, 2, "c"), said(1, 1, 1, "a"), said(2, 1, 1, ""), said(1, 2, 1, "d")}
	good := map[string][]impl.Record{
		"nothing":                           nil,
		"the first":                         {said(1, 1, 1, "a")},
		"two":                               {said(1, 1, 1, "a"), said(1, 1, 1, "b")},
		"three":                             {said(1, 1, 1, "a"), said(1, 1, 1, "b"), said(1, 1, 1, "a")},
		"the other end alone":               {said(2, 1, 1, "x"), said(2, 1, 1, "")},
		"another pair alone":                {said(1, 1, 2, "c")},
		"pairs in another order":            {said(1, 2, 1, "d"), said(1, 1, 2, "c"), said(2, 1, 1, "x"), said(1, 1, 1, "a")},
		"all of them":                       given,
		"ends by turns":                     {said(2, 1, 1, "x"), said(1, 1, 1, "a"), said(2, 1, 1, ""), said(1, 1, 1, "b")},
		"a pair between others of the pair": {said(1, 1, 1, "a"), said(1, 1, 2, "c"), said(1, 1, 1, "b")},
	}
	bad := map[string][]impl.Record{
		"one too many":                  append(append([]impl.Record{}, given...), said(1, 1, 1, "a")),
		"not from the first on":         {said(1, 1, 1, "b")},
		"one left out":                  {said(1, 1, 1, "a"), said(1, 1, 1, "a")},
		"another order":                 {said(1, 1, 1, "b"), said(1, 1, 1, "a")},
		"twice":                         {said(1, 1, 2, "c"), said(1, 1, 2, "c")},
		"another text":                  {said(1, 1, 1, "A")},
		"a beginning of the text":       {said(1, 1, 1, "")},
		"more than the text":            {said(1, 1, 1, "ab")},
		"from the other end":            {said(2, 1, 1, "a")},
		"in another life of the giver":  {said(1, 3, 1, "a")},
		"in another life of the taker":  {said(1, 1, 2, "a")},
		"in a pair where none is given": {said(2, 2, 1, "")},
		"a fault behind good ones":      {said(2, 1, 1, "x"), said(1, 1, 1, "a"), said(2, 1, 1, "y")},
		"a fault ahead of good ones":    {said(1, 1, 2, "d"), said(1, 1, 1, "a")},
		"the first text behind others":  {said(2, 1, 1, "x"), said(2, 1, 1, "x")},
	}
	for what, taken := range good {
		w := met("key", 8)
		w.Given, w.Taken = given, taken
		if !impl.Right(w) || !wantRight(w) {
			t.Errorf("%s: not right", what)
		}
	}
	for what, taken := range bad {
		w := met("key", 8)
		w.Given, w.Taken = given, taken
		if impl.Right(w) || wantRight(w) {
			t.Errorf("%s: right", what)
		}
		w.Forged = "forged"
		if impl.Right(w) {
			t.Errorf("%s: right when forged", what)
		}
	}
	w := met("key", 8)
	w.Taken = []impl.Record{said(1, 1, 1, "")}
	if impl.Right(w) {
		t.Error("nothing given: right")
	}
	w.Given, w.Taken = records(1, 200), records(1, 200)
	if !impl.Right(w) {
		t.Error("200 given and taken: not right")
	}
	w.Given, w.Taken = records(1, 199), records(1, 200)
	if impl.Right(w) {
		t.Error("199 given and 200 taken: right")
	}
}

// Few texts and few talks, so that both answers come often.
func TestRightOfAnyRecords(t *testing.T) {
	source := rand.New(rand.NewSource(33))
	seen := map[bool]int{}
	for range 20000 {
		w := met("key", 8)
		for range source.Intn(8) {
			w.Given = append(w.Given, said(1+source.Intn(2), 1+source.Intn(2), 1, []string{"", "a"}[source.Intn(2)]))
		}
		for range source.Intn(6) {
			w.Taken = append(w.Taken, said(1+source.Intn(2), 1+source.Intn(2), 1, []string{"", "a"}[source.Intn(2)]))
		}
		want := wantRight(w)
		if impl.Right(w) != want {
			t.Fatalf("Right(%+v) = %v", w, !want)
		}
		seen[want]++
	}
	if seen[true] < 2000 || seen[false] < 2000 {
		t.Errorf("%v: the test tells too little", seen)
	}
}

func TestIdle(t *testing.T) {
	idle := map[string]func(*impl.World){
		"two that have met":         func(*impl.World) {},
		"one owes a word":           func(w *impl.World) { w.Ends[0].Owes = true },
		"Since is high":             func(w *impl.World) { w.Ends[1].Since = 1000000 },
		"parcels in flight":         func(w *impl.World) { w.Flight = plain(1000) },
		"Forged":                    func(w *impl.World) { w.Forged = "f" },
		"not right":                 func(w *impl.World) { w.Taken = records(1, 3) },
		"lives that match":          func(w *impl.World) { w.Ends[0].Life, w.Ends[1].Peer = 7, 7 },
		"the last lives":            func(w *impl.World) { w.Ends[1].Life, w.Ends[0].Peer = 1000, 1000 },
		"parts have gone over":      func(w *impl.World) { w.Ends[0].Send.Base, w.Ends[1].Take.Next = 9, 9 },
		"Base and Next that differ": func(w *impl.World) { w.Ends[1].Send.Base, w.Ends[0].Take.Next = 9, 12 },
		"empty lists":               func(w *impl.World) { w.Ends[0].Send.Items, w.Ends[0].Take.Ready = []impl.Item{}, []string{} },
	}
	for what, change := range idle {
		w := met("key", 8)
		change(&w)
		if !impl.Idle(w) || !wantIdle(w) {
			t.Errorf("%s: not idle", what)
		}
	}
	for i := range 2 {
		busy := map[string]func(*impl.End){
			"not Up":         func(e *impl.End) { *e = impl.End{Number: e.Number, Life: 1} },
			"no Peer":        func(e *impl.End) { e.Peer = 0 },
			"another Peer":   func(e *impl.End) { e.Peer = 2 },
			"another Life":   func(e *impl.End) { e.Life = 2 },
			"an Item":        func(e *impl.End) { e.Send.Items = unsent(1) },
			"a sent Item":    func(e *impl.End) { e.Send.Items = []impl.Item{{Has: true}} },
			"a Held":         func(e *impl.End) { e.Take.Held = heldAt(1) },
			"an Open":        func(e *impl.End) { e.Take.Open = "o" },
			"a Ready":        func(e *impl.End) { e.Take.Ready = []string{"r"} },
			"an empty Ready": func(e *impl.End) { e.Take.Ready = []string{""} },
		}
		for what, change := range busy {
			w := met("key", 8)
			change(&w.Ends[i])
			if !impl.ValidWorld(w) || impl.Idle(w) || wantIdle(w) {
				t.Errorf("end %d, %s: idle", i+1, what)
			}
		}
	}
}

// Both not Up is not idle, nor are two lives that each end takes for its own.
func TestIdleNeedsBothEnds(t *testing.T) {
	w := met("key", 8)
	w.Ends = []impl.End{{Number: 1, Life: 1}, {Number: 2, Life: 1}}
	if impl.Idle(w) {
		t.Error("both not Up: idle")
	}
	w = met("key", 8)
	w.Ends[0].Life, w.Ends[0].Peer = 2, 2
	if impl.Idle(w) {
		t.Error("each one's Peer is its own Life: idle")
	}
}

func TestJudgesOfAnyWorld(t *testing.T) {
	source := rand.New(rand.NewSource(34))
	for range 2000 {
		w := someWorld(source)
		if source.Intn(2) == 0 {
			w.Ends = met("", 1).Ends
		}
		if impl.Right(w) != wantRight(w) || impl.Idle(w) != wantIdle(w) {
			t.Fatalf("%v, %v: %+v", impl.Right(w), impl.Idle(w), w)
		}
	}
}
