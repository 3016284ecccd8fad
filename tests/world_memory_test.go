package tests

import (
	"math/rand"
	"runtime"
	"slices"
	"sync"
	"testing"
	"time"
	"unsafe"

	"loop.example/kilnwind/impl"
)

// roomyWorld is a world in new lists, each with marks behind its end.
func roomyWorld(w impl.World) impl.World {
	w.Ends = roomy(w.Ends, impl.End{Number: 99})
	w.Flight = roomy(w.Flight, impl.Parcel{To: 99, Sent: "mark", Bytes: "mark"})
	w.Given = roomy(w.Given, impl.Record{From: 99, Text: "mark"})
	w.Taken = roomy(w.Taken, impl.Record{From: 99, Text: "mark"})
	for i := range w.Ends {
		e := &w.Ends[i]
		e.Send.Items = roomy(e.Send.Items, impl.Item{Since: 99, Has: true})
		e.Take.Held = roomy(e.Take.Held, impl.Held{Seq: 99})
		e.Take.Ready = roomy(e.Take.Ready, "mark")
	}
	return w
}

// wholeWorld is a world with the spare room of its lists.
func wholeWorld(w impl.World) impl.World {
	w.Ends = whole(w.Ends)
	w.Flight = whole(w.Flight)
	w.Given = whole(w.Given)
	w.Taken = whole(w.Taken)
	for i := range w.Ends {
		e := &w.Ends[i]
		e.Send.Items = whole(e.Send.Items)
		e.Take.Held = whole(e.Take.Held)
		e.Take.Ready = whole(e.Take.Ready)
	}
	return w
}

// overwriteWorld fills the lists of a world and their spare room.
func overwriteWorld(w impl.World) {
	for _, e := range w.Ends {
		overwrite(e.Send.Items, impl.Item{Since: 98})
		overwrite(e.Take.Held, impl.Held{Seq: 98})
		overwrite(e.Take.Ready, "over")
	}
	overwrite(w.Ends, impl.End{Number: 98})
	overwrite(w.Flight, impl.Parcel{To: 98})
	overwrite(w.Given, impl.Record{From: 98})
	overwrite(w.Taken, impl.Record{From: 98})
}

// worldTexts are all texts of a world that are not empty.
func worldTexts(w impl.World) []string {
	texts := []string{w.Key, w.Forged}
	for _, p := range w.Flight {
		texts = append(texts, p.Sent, p.Bytes)
	}
	for _, r := range append(slices.Clone(w.Given), w.Taken...) {
		texts = append(texts, r.Text)
	}
	for _, e := range w.Ends {
		for _, item := range e.Send.Items {
			texts = append(texts, item.Part.Text)
		}
		texts = append(texts, textsOf(e.Take)...)
	}
	return slices.DeleteFunc(texts, func(text string) bool { return text == "" })
}

func addressOf(text string) uintptr {
	return uintptr(unsafe.Pointer(unsafe.StringData(text)))
}

// byAddress sorts texts by where they lie.
func byAddress(texts []string) []string {
	slices.SortFunc(texts, func(a, b string) int {
		if addressOf(a) < addressOf(b) {
			return -1
		}
		return 1
	})
	return texts
}

// eachApart fails if two of the texts lie in the same memory. (Texts of one byte are the runtime's own, and are shared.)
func eachApart(t *testing.T, what string, texts []string) {
	t.Helper()
	texts = byAddress(slices.DeleteFunc(texts, func(text string) bool { return len(text) < 2 }))
	for i := 1; i < len(texts); i++ {
		if addressOf(texts[i-1])+uintptr(len(texts[i-1])) > addressOf(texts[i]) {
			t.Fatalf("%s: %q and %q share memory", what, texts[i-1], texts[i])
		}
	}
}

// listsApart fails if two lists of one answer share memory, their spare room included.
func listsApart(t *testing.T, what string, w impl.World) {
	t.Helper()
	if len(w.Ends) == 0 {
		return
	}
	a, b := w.Ends[0], w.Ends[1]
	if overlap(w.Given, w.Taken) || overlap(a.Send.Items, b.Send.Items) || overlap(a.Take.Held, b.Take.Held) || overlap(a.Take.Ready, b.Take.Ready) {
		t.Fatalf("%s: two lists share memory", what)
	}
}

func overlap[T any](a, b []T) bool {
	a, b = a[:cap(a)], b[:cap(b)]
	if len(a) == 0 || len(b) == 0 {
		return false
	}
	firstA, firstB := uintptr(unsafe.Pointer(&a[0])), uintptr(unsafe.Pointer(&b[0]))
	return firstA <= uintptr(unsafe.Pointer(&b[len(b)-1])) && firstB <= uintptr(unsafe.Pointer(&a[len(a)-1]))
}

// leavesWorld fails if what a call does, or what is done to its answer later, is to be seen in the world it was given,
// if a text of the answer lies in one that was given, or if two of the answer share memory.
func leavesWorld(t *testing.T, what string, w impl.World, given string, call func(impl.World) impl.World) {
	t.Helper()
	arg := roomyWorld(w)
	before := wholeWorld(arg)
	after := call(arg)
	wantWorld(t, what+": the argument", wholeWorld(arg), before)
	listsApart(t, what, after)
	old := append(worldTexts(w), given)
	texts := worldTexts(after)
	eachApart(t, what, slices.Clone(texts))
	old = byAddress(slices.DeleteFunc(old, func(text string) bool { return len(text) < 2 }))
	for _, text := range texts {
		place, _ := slices.BinarySearchFunc(old, addressOf(text), func(text string, address uintptr) int {
			if addressOf(text) <= address {
				return -1
			}
			return 1
		})
		if len(text) > 1 && place > 0 && liesIn(text, old[place-1]) {
			t.Fatalf("%s: %q lies in an argument", what, text)
		}
	}
	overwriteWorld(after)
	wantWorld(t, what+": the argument behind a change of the answer", wholeWorld(arg), before)
}

func TestWorldsLeaveTheirArgument(t *testing.T) {
	source := rand.New(rand.NewSource(140))
	for range 400 {
		w := someWorld(source)
		for range 6 {
			e := someEvent(source, w)
			leavesWorld(t, "Do", w, e.Text, func(w impl.World) impl.World { return impl.Do(w, e) })
		}
		rounds, every := someRounds(source)
		leavesWorld(t, "Calm", w, "", func(w impl.World) impl.World { return impl.Calm(w, min(rounds, 3), every) })
		leavesWorld(t, "ValidWorld", w, "", func(w impl.World) impl.World { impl.ValidWorld(w); return impl.World{} })
		leavesWorld(t, "Right", w, "", func(w impl.World) impl.World { impl.Right(w); return impl.World{} })
		leavesWorld(t, "Idle", w, "", func(w impl.World) impl.World { impl.Idle(w); return impl.World{} })
	}
	for what, w := range wrongWorlds() {
		leavesWorld(t, what, w, "", func(w impl.World) impl.World { return impl.Do(w, at(impl.EvTick)) })
		leavesWorld(t, what, w, "", func(w impl.World) impl.World { return impl.Calm(w, 2, 1) })
	}
}

// Each kind of event at a place where it does something.
func TestEachEventLeavesItsArgument(t *testing.T) {
	w := ready()
	w.Flight[4].Sent = "another one"
	w.Given, w.Taken, w.Forged = records(1, 20), records(1, 12), ""
	w.Ends[0].Take.Ready = fourReady()
	w.Ends[1].Send.Items = unsent(12)
	for kind := impl.EvTick; kind <= impl.EvPull; kind++ {
		for a := range 5 {
			e := impl.Event{Kind: kind, A: a, B: 2, C: 7, Text: letters(150)}
			leavesWorld(t, "Do", w, e.Text, func(w impl.World) impl.World { return impl.Do(w, e) })
		}
	}
	for every := 1; every <= 3; every++ {
		leavesWorld(t, "Calm", w, "", func(w impl.World) impl.World { return impl.Calm(w, 5, every) })
	}
	key := letters(30)
	leavesWorld(t, "NewWorld", w, key, func(impl.World) impl.World { return impl.NewWorld(key, 8) })
}

// Many at once, with one argument: each answers the same, however the goroutines run.
func TestTheSameCallAnswersTheSame(t *testing.T) {
	w, _ := loud(3)
	w.Ends[1].Send.Items = unsent(12)
	tick, calm, loose := impl.Do(w, at(impl.EvTick)), impl.Calm(w, 40, 1), impl.Calm(w, 40, 3)
	var all sync.WaitGroup
	for range 16 {
		all.Go(func() {
			for range 60 {
				if !equalWorlds(impl.Do(w, at(impl.EvTick)), tick) || !equalWorlds(impl.Calm(w, 40, 1), calm) || !equalWorlds(impl.Calm(w, 40, 3), loose) {
					t.Error("another answer")
				}
			}
		})
	}
	all.Wait()
}

func TestNoGoroutineIsLeft(t *testing.T) {
	before := runtime.NumGoroutine()
	w, _ := loud(995)
	for range 50 {
		impl.Do(w, at(impl.EvTick))
		impl.Calm(w, 30, 2)
		impl.Calm(impl.World{}, 30, 2)
		impl.Do(impl.World{}, at(impl.EvTick))
	}
	// One that has closed its line may need a moment to be gone.
	for range 500 {
		if runtime.NumGoroutine() <= before {
			return
		}
		time.Sleep(10 * time.Millisecond)
	}
	t.Errorf("%d goroutines, not %d", runtime.NumGoroutine(), before)
}
