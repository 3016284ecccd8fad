package tests

import (
	"math/rand"
	"testing"

	"loop.example/kilnwind/impl"
)

func TestWorldLimits(t *testing.T) {
	if impl.MaxFlight != 1000 || impl.MaxBytes != 100 || impl.MaxHistory != 400 || impl.MaxCalm != 5000 {
		t.Error("the limits are not those of the document")
	}
	kinds := []int{impl.EvTick, impl.EvBring, impl.EvDouble, impl.EvLose, impl.EvBend, impl.EvCut, impl.EvTurn, impl.EvFall, impl.EvRise, impl.EvPush, impl.EvPull}
	for i, kind := range kinds {
		if kind != i+1 {
			t.Errorf("kind %d is %d", i+1, kind)
		}
	}
}

func TestNewWorlds(t *testing.T) {
	for width := 1; width <= 8; width++ {
		for _, key := range []string{"", "k", "\x00", letters(29), letters(30)} {
			w := impl.NewWorld(key, width)
			want := impl.World{Key: key, Width: width, Ends: []impl.End{{Number: 1, Up: true, Life: 1}, {Number: 2, Up: true, Life: 1}}}
			wantWorld(t, "NewWorld", w, want)
			if !impl.ValidWorld(w) || !impl.Right(w) || impl.Idle(w) {
				t.Errorf("NewWorld(%q, %d) = %+v", key, width, w)
			}
		}
	}
	for _, width := range []int{0, 9, -1, 257, 1<<32 + 1, -1 << 63, 1<<63 - 1} {
		if w := impl.NewWorld("key", width); !isNoWorld(w) {
			t.Errorf("width %d: %+v", width, w)
		}
	}
	for _, size := range []int{31, 32, 256, 286, 100000} {
		if w := impl.NewWorld(letters(size), 8); !isNoWorld(w) {
			t.Errorf("a key of %d bytes: %+v", size, w)
		}
	}
}

func TestValidWorlds(t *testing.T) {
	with := func(change func(*impl.World)) impl.World {
		w := met("key", 8)
		change(&w)
		return w
	}
	full := impl.Parcel{To: 2, Sent: letters(100), Bytes: letters(100)}
	long := impl.Record{From: 2, A: 1000, B: 1000, Text: letters(200)}
	good := map[string]impl.World{
		"nothing in flight":            met("key", 8),
		"a key of nothing":             met("", 8),
		"a key of 30 bytes":            met(letters(30), 8),
		"Width 1":                      met("key", 1),
		"1000 in flight":               with(func(w *impl.World) { w.Flight = plain(1000) }),
		"parcels of 100 bytes":         with(func(w *impl.World) { w.Flight = []impl.Parcel{full, full} }),
		"parcels of nothing":           with(func(w *impl.World) { w.Flight = []impl.Parcel{{To: 1}, {To: 2}} }),
		"Sent and Bytes that differ":   with(func(w *impl.World) { w.Flight = []impl.Parcel{{To: 1, Sent: "a", Bytes: "b"}} }),
		"400 Given":                    with(func(w *impl.World) { w.Given = records(1, 400) }),
		"400 Taken":                    with(func(w *impl.World) { w.Taken = records(2, 400) }),
		"1 Given and 399 Taken":        with(func(w *impl.World) { w.Given, w.Taken = records(1, 1), records(1, 399) }),
		"records at their bounds":      with(func(w *impl.World) { w.Given, w.Taken = []impl.Record{long}, []impl.Record{long} }),
		"Taken that was never Given":   with(func(w *impl.World) { w.Taken = records(1, 2) }),
		"Forged":                       with(func(w *impl.World) { w.Forged = "f" }),
		"Forged of more than MaxBytes": with(func(w *impl.World) { w.Forged = letters(1000) }),
		"ends that are not Up":         with(func(w *impl.World) { w.Ends = []impl.End{{Number: 1, Life: 1000}, {Number: 2, Life: 1}} }),
		"lives that do not match":      with(func(w *impl.World) { w.Ends[0].Life, w.Ends[1].Peer = 3, 9 }),
		"empty lists":                  with(func(w *impl.World) { w.Flight, w.Given, w.Taken = []impl.Parcel{}, []impl.Record{}, []impl.Record{} }),
	}
	for what, w := range good {
		if !impl.ValidWorld(w) || !wantValidWorld(w) {
			t.Errorf("%s: refused", what)
		}
		stays(t, what, w, impl.Event{})
		wantWorld(t, what, impl.Calm(w, 0, 1), w)
	}
}

// A world that is not valid is told, and has one answer at each function.
func TestWrongWorlds(t *testing.T) {
	for what, w := range wrongWorlds() {
		if wantValidWorld(w) || impl.ValidWorld(w) {
			t.Errorf("%s: valid", what)
		}
		for _, e := range eventsOfAllKinds() {
			if after := impl.Do(w, e); !isNoWorld(after) {
				t.Errorf("%s: Do with %+v: %+v", what, e, after)
			}
		}
		for _, rounds := range []int{-1, 0, 1, 7} {
			for every := -1; every <= 11; every++ {
				if after := impl.Calm(w, rounds, every); !isNoWorld(after) {
					t.Errorf("%s: Calm of %d and %d: %+v", what, rounds, every, after)
				}
			}
		}
		if impl.Right(w) || impl.Idle(w) {
			t.Errorf("%s: %v, %v", what, impl.Right(w), impl.Idle(w))
		}
	}
}

func TestValidOfAnyWorld(t *testing.T) {
	source := rand.New(rand.NewSource(32))
	good, bad := 0, 0
	for range 3000 {
		w := someWorld(source)
		if source.Intn(2) == 0 {
			spoilWorld(source, &w)
		}
		want := wantValidWorld(w)
		if impl.ValidWorld(w) != want {
			t.Fatalf("ValidWorld(%+v) = %v", w, !want)
		}
		if want {
			good++
		} else {
			bad++
		}
	}
	if good < 1000 || bad < 500 {
		t.Errorf("%d good, %d bad: the test tells too little", good, bad)
	}
}

// spoilWorld makes one field of a world another one, which may be wrong.
func spoilWorld(source *rand.Rand, w *impl.World) {
	number := []int{-1, 0, 1, 2, 3, 8, 9, 1000, 1001}[source.Intn(9)]
	text := letters([]int{30, 31, 100, 101, 200, 201}[source.Intn(6)])
	e := &w.Ends[source.Intn(2)]
	switch source.Intn(9) {
	case 0:
		w.Key = text
	case 1:
		w.Width = number
	case 2:
		e.Number = number
	case 3:
		e.Life = number
	case 4:
		e.Peer = number
	case 5:
		w.Flight = append(w.Flight, impl.Parcel{To: number, Sent: text})
	case 6:
		w.Flight = append(w.Flight, impl.Parcel{To: 1, Bytes: text})
	case 7:
		w.Given = append(w.Given, impl.Record{From: 1, A: 1, B: number, Text: text})
	default:
		w.Taken = append(w.Taken, impl.Record{From: number, A: number, B: 1, Text: text})
	}
}
