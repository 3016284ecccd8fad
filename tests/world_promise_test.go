package tests

import (
	"math/rand"
	"slices"
	"strconv"
	"testing"

	"loop.example/kilnwind/impl"
)

// weather is how often each kind of event comes, by kind from EvTick on.
type weather struct {
	name  string
	often [11]int
}

// weathers are links that are good, and links that lose, double, hold, turn, cut and change, and ends that fall. An end
// whose pulls are few slows the other down.
func weathers() []weather {
	return []weather{
		{"fair", [11]int{30, 80, 0, 0, 0, 0, 0, 0, 0, 12, 14}},
		{"losing", [11]int{30, 60, 0, 25, 0, 0, 0, 0, 0, 10, 12}},
		{"doubling", [11]int{20, 60, 25, 12, 0, 0, 0, 0, 0, 10, 12}},
		{"changing", [11]int{30, 70, 2, 4, 12, 6, 6, 0, 0, 10, 12}},
		{"slow", [11]int{30, 90, 2, 4, 0, 0, 0, 0, 0, 20, 3}},
		{"falling", [11]int{40, 80, 4, 4, 0, 0, 1, 2, 8, 12, 12}},
		{"all", [11]int{40, 80, 6, 8, 5, 3, 4, 1, 6, 12, 12}},
		{"restless", [11]int{20, 60, 2, 2, 1, 1, 1, 3, 14, 16, 12}},
	}
}

// storm draws the events of a world in a weather. No two messages that it gives are alike.
type storm struct {
	source  *rand.Rand
	weather weather
	given   int
	seen    map[string]int
}

func newStorm(seed int64, how weather) *storm {
	return &storm{source: rand.New(rand.NewSource(seed)), weather: how, seen: map[string]int{}}
}

func (s *storm) kind() int {
	total := 0
	for _, weight := range s.weather.often {
		total += weight
	}
	drawn := s.source.Intn(total)
	for i, weight := range s.weather.often {
		drawn -= weight
		if drawn < 0 {
			return i + 1
		}
	}
	return 0
}

func (s *storm) event(w impl.World) impl.Event {
	e := impl.Event{Kind: s.kind(), A: 1 + s.source.Intn(2)}
	switch {
	case e.Kind == impl.EvPush:
		s.given++
		sizes := []int{1, 5, 15, 16, 17, 40, 196}
		e.Text = strconv.Itoa(1000+s.given) + letters(sizes[s.source.Intn(len(sizes))]-1)
	case e.Kind >= impl.EvBring && e.Kind <= impl.EvTurn && len(w.Flight) > 0:
		// Most parcels come in turn; some are held back for long.
		e.A = s.source.Intn(min(len(w.Flight), 1+s.source.Intn(12)))
		if s.source.Intn(4) == 0 {
			e.A = s.source.Intn(len(w.Flight))
		}
		size := len(w.Flight[e.A].Bytes)
		e.B, e.C = s.source.Intn(size+1), s.source.Intn(300)
	}
	return e
}

// step is the next event, and the world behind it.
func (s *storm) step(t *testing.T, w impl.World) impl.World {
	t.Helper()
	e := s.event(w)
	after := does(t, "an event", w, e)
	keepsSafe(t, e, after)
	s.count(w, after)
	return after
}

// count keeps what has been seen, so that a test can tell whether it tells enough.
func (s *storm) count(w, after impl.World) {
	s.seen["taken"] += len(after.Taken) - len(w.Taken)
	for i, e := range after.Ends {
		if e.Peer != w.Ends[i].Peer {
			s.seen["new pair"]++
		}
		for _, item := range e.Send.Items {
			if item.Has {
				s.seen["told to be held"]++
			}
		}
		if e.Send.Base > w.Ends[i].Send.Base {
			s.seen["told to be taken in"]++
		}
	}
}

// keepsSafe fails unless P8, P9, P12 and P13 hold in a world that events have led to.
func keepsSafe(t *testing.T, e impl.Event, w impl.World) {
	t.Helper()
	if !impl.ValidWorld(w) || !wantValidWorld(w) {
		t.Fatalf("P12: %+v led to %+v", e, w)
	}
	if impl.Right(w) != wantRight(w) || impl.Idle(w) != wantIdle(w) {
		t.Fatalf("Right %v, Idle %v: %+v", impl.Right(w), impl.Idle(w), w)
	}
	if w.Forged != "" {
		return
	}
	if !impl.Right(w) {
		t.Fatalf("P8: %+v led to given %+v and taken %+v", e, w.Given, w.Taken)
	}
	keepsP9(t, e, w)
	for _, taken := range w.Taken {
		if !slices.Contains(w.Given, taken) {
			t.Fatalf("P13: %+v was taken, and was not given there: %+v", taken, w.Given)
		}
	}
}

// keepsP9 fails if an end has been told that the other has what it has not.
func keepsP9(t *testing.T, e impl.Event, w impl.World) {
	t.Helper()
	if w.Ends[0].Peer != w.Ends[1].Life || w.Ends[1].Peer != w.Ends[0].Life {
		return
	}
	for i, end := range w.Ends {
		take := w.Ends[1-i].Take
		if end.Send.Base > take.Next {
			t.Fatalf("P9: %+v led to Base %d and Next %d", e, end.Send.Base, take.Next)
		}
		for place, item := range end.Send.Items {
			seq := end.Send.Base + place
			there := seq < take.Next || slices.ContainsFunc(take.Held, func(held impl.Held) bool { return held.Seq == seq })
			if item.Has && !there {
				t.Fatalf("P9: %+v led to %+v and %+v", e, end.Send, take)
			}
		}
	}
}

// risen is a world whose ends are Up: those that are not rise.
func risen(w impl.World) impl.World {
	for number := 1; number <= 2; number++ {
		w = impl.Do(w, at(impl.EvRise, number))
	}
	return w
}

// textsFrom are the texts of the records from an end in the lives that the ends of a world have.
func textsFrom(from int, w impl.World, list []impl.Record) []string {
	var texts []string
	for _, r := range list {
		if r.From == from && r.A == w.Ends[from-1].Life && r.B == w.Ends[2-from].Life {
			texts = append(texts, r.Text)
		}
	}
	return texts
}

// keepsAlive fails unless P10 holds in a world that events have led to, and says whether it is one that P10 is about.
func keepsAlive(t *testing.T, w impl.World, every int) bool {
	t.Helper()
	if w.Forged != "" || !w.Ends[0].Up || !w.Ends[1].Up || len(w.Given)+len(w.Taken) > 260 {
		return false
	}
	items := len(w.Ends[0].Send.Items) + len(w.Ends[1].Send.Items)
	after := impl.Calm(w, min(40+12*every*(6+items), 5000), every)
	keepsSafe(t, impl.Event{Text: "Calm"}, after)
	if after.Forged != "" {
		return false
	}
	if !impl.Idle(after) {
		t.Fatalf("P10: every %d, %d Items: not idle: %+v", every, items, after.Ends)
	}
	for from := 1; from <= 2; from++ {
		given, taken := textsFrom(from, after, after.Given), textsFrom(from, after, after.Taken)
		if !slices.Equal(given, taken) {
			t.Fatalf("P10: every %d: %q was given, and %q taken", every, given, taken)
		}
	}
	return true
}

// P8, P9, P10, P12 and P13 in long rows of events in each weather, with each width.
func TestStorms(t *testing.T) {
	for i, how := range weathers() {
		for _, width := range []int{1, 2, 4, 8} {
			s := newStorm(int64(40+10*i+width), how)
			t.Run(how.name+" "+strconv.Itoa(width), func(t *testing.T) {
				t.Parallel()
				for range 2 {
					s.blow(t, width)
				}
				for _, what := range []string{"taken", "told to be held", "told to be taken in", "new pair", "calmed"} {
					if s.seen[what] == 0 {
						t.Errorf("nothing was %s: the test tells too little", what)
					}
				}
			})
		}
	}
}

// blow is one row of events. Now and then the row's world is calmed aside; the row goes on from the world before.
func (s *storm) blow(t *testing.T, width int) {
	w := impl.NewWorld("key", width)
	for i := range 1200 {
		w = s.step(t, w)
		if i%100 == 99 && keepsAlive(t, risen(w), 1+s.source.Intn(10)) {
			s.seen["calmed"]++
		}
	}
}

// broughtAll ticks and brings what is in flight, so many times.
func broughtAll(w impl.World, times int) impl.World {
	for range times {
		w = impl.Do(w, at(impl.EvTick))
		for range len(w.Flight) {
			w = impl.Do(w, at(impl.EvBring, 0))
		}
	}
	return w
}

// busiest is a world that events have led to, with all that P10 allows: 260 records, and at both ends four messages
// that are ready and 60 parts to send.
func busiest(t *testing.T) impl.World {
	t.Helper()
	w := impl.Calm(impl.NewWorld("key", 8), 7, 1)
	both := func(count int) {
		for i := range count {
			w = impl.Do(w, pushing(1, "one "+strconv.Itoa(len(w.Given)+i)))
			w = impl.Do(w, pushing(2, "two "+strconv.Itoa(len(w.Given)+i)))
		}
	}
	for range 11 {
		both(3)
		w = impl.Calm(w, 10, 1)
	}
	both(4)
	w = broughtAll(w, 3)
	both(60)
	for _, e := range w.Ends {
		if len(e.Send.Items) != 60 || len(e.Take.Ready) != 4 || len(w.Given)+len(w.Taken) != 260 {
			t.Fatalf("%d Items, %d Ready, %d records", len(e.Send.Items), len(e.Take.Ready), len(w.Given)+len(w.Taken))
		}
	}
	return w
}

// P10 at its edges, with nothing in flight and with as much as there may be, in one pair of lives and ahead of a new one.
func TestCalmEndsTheBusiestWorlds(t *testing.T) {
	w := busiest(t)
	full := impl.Do(w, at(impl.EvTick))
	for len(full.Flight) < 1000 {
		full = impl.Do(full, at(impl.EvDouble, len(full.Flight)%16))
	}
	worlds := map[string]impl.World{
		"busy":                w,
		"the window was sent": broughtAll(w, 1),
		"a full flight":       full,
		"a new life":          risen(impl.Do(full, at(impl.EvFall, 2))),
		"two new lives":       risen(impl.Do(impl.Do(full, at(impl.EvFall, 1)), at(impl.EvFall, 2))),
	}
	for what, w := range worlds {
		for every := 1; every <= 10; every++ {
			if !keepsAlive(t, w, every) {
				t.Errorf("%s: the promise is not about this world", what)
			}
		}
	}
}

// P10 at the last numbers and the last time that it is about.
func TestCalmEndsAtTheLastNumbers(t *testing.T) {
	for _, every := range []int{1, 3, 10} {
		w := met("key", 8)
		for i := range w.Ends {
			w.Ends[i].Send.Base, w.Ends[i].Take.Next, w.Ends[i].Since = 999800, 999800, 999999
		}
		for i := range 6 {
			w = impl.Do(w, pushing(1, strconv.Itoa(i)+letters(199)))
			w = impl.Do(w, pushing(2, strconv.Itoa(i)+letters(199)))
		}
		if !keepsAlive(t, w, every) || len(w.Ends[0].Send.Items) != 60 {
			t.Errorf("%+v", w)
		}
	}
}

// P8 and P13: what was given in a pair of lives, and comes when another one has begun, is not taken.
func TestMessagesOfOtherLives(t *testing.T) {
	for number := 1; number <= 2; number++ {
		for _, falls := range []int{number, 3 - number} {
			w := impl.Calm(impl.NewWorld("key", 8), 7, 1)
			w = impl.Do(w, pushing(number, "old"))
			w = impl.Do(w, at(impl.EvTick))
			old := w.Flight
			w = impl.Do(w, at(impl.EvFall, falls))
			w = impl.Do(w, at(impl.EvRise, falls))
			w.Flight = nil
			w = impl.Calm(w, 20, 1)
			w = impl.Do(w, pushing(number, "new"))
			w.Flight = append(slices.Clone(old), w.Flight...)
			w = impl.Calm(w, 20, 1)
			if len(w.Given) != 2 || len(w.Taken) != 1 || w.Taken[0] != w.Given[1] || w.Taken[0].Text != "new" || !impl.Right(w) || !impl.Idle(w) {
				t.Errorf("from %d, %d falls: %+v", number, falls, w)
			}
		}
	}
}

// P9: an end that falls forgets what it has told; the pair of lives is another one then.
func TestFallBehindAWord(t *testing.T) {
	w := impl.Calm(impl.NewWorld("key", 8), 7, 1)
	w = impl.Do(w, pushing(1, letters(100)))
	w = broughtAll(w, 2)
	if w.Ends[0].Send.Base != 5 || w.Ends[1].Take.Next != 5 {
		t.Fatalf("%+v", w.Ends)
	}
	w = risen(impl.Do(w, at(impl.EvFall, 2)))
	for range 20 {
		w = broughtAll(w, 1)
		keepsSafe(t, impl.Event{}, w)
	}
	if w.Ends[0].Send.Base != 0 || !impl.Idle(w) || len(w.Taken) != 0 {
		t.Errorf("%+v", w)
	}
}
