package tests

import (
	"testing"

	"loop.example/kilnwind/impl"
)

// bentTo bends the bytes of a parcel one by one until they are those of a text of the same size.
func bentTo(t *testing.T, w impl.World, place int, text string) impl.World {
	t.Helper()
	for i := range len(text) {
		w = does(t, "EvBend", w, at(impl.EvBend, place, i, int(w.Flight[place].Bytes[i]^text[i])))
	}
	if w.Flight[place].Bytes != text {
		t.Fatalf("bent to %q, not to %q", w.Flight[place].Bytes, text)
	}
	return w
}

// told is a world in which data with the part "true" is in flight to end 2.
func told(key string, width int) impl.World {
	w := met(key, width)
	w = impl.Do(w, pushing(1, "true"))
	return impl.Do(w, at(impl.EvTick))
}

// A changed parcel that bears a right tag is shown when it is brought, with the bytes that it has then.
func TestChangedParcelWithARightTag(t *testing.T) {
	for _, width := range []int{1, 2, 4, 8} {
		for _, key := range []string{"", "key", letters(30)} {
			w := told(key, width)
			sent := w.Flight[0].Sent
			made := wantForm(dataTo(2, 0, "made", true), key, width)
			bent := bentTo(t, w, 0, made)
			if bent.Forged != "" || bent.Flight[0] != (impl.Parcel{To: 2, Sent: sent, Bytes: made}) {
				t.Fatalf("%+v", bent)
			}
			after := does(t, "EvBring", bent, at(impl.EvBring, 0))
			after = does(t, "EvPull", after, at(impl.EvPull, 2))
			if after.Forged != made || len(after.Taken) != 1 || after.Taken[0].Text != "made" || impl.Right(after) {
				t.Errorf("%+v", after)
			}
		}
	}
}

func TestChangedParcelWithAWrongTag(t *testing.T) {
	for _, width := range []int{2, 4, 8} {
		w := told("key", width)
		form := w.Flight[0].Bytes
		for place := range len(form) {
			for _, by := range []int{1, 2, 64, 128, 255} {
				bent := impl.Do(w, at(impl.EvBend, 0, place, by))
				after := does(t, "EvBring", bent, at(impl.EvBring, 0))
				if _, ok := wantReadForm(bent.Flight[0].Bytes, "key", width); ok {
					t.Fatalf("byte %d bent by %d is read: another key is needed", place, by)
				}
				w.Flight = nil
				wantWorld(t, "a wrong tag", after, w)
				w.Flight = []impl.Parcel{{To: 2, Sent: form, Bytes: form}}
			}
		}
		for size := range len(form) {
			cut := impl.Do(w, at(impl.EvCut, 0, size))
			after := does(t, "EvBring", cut, at(impl.EvBring, 0))
			if after.Forged != "" || len(after.Ends[1].Take.Ready) != 0 || len(after.Flight) != 0 {
				t.Errorf("cut to %d: %+v", size, after)
			}
		}
	}
}

// A tag of one byte sees a change of one byte, but not always one of two; whenever it does not, that is shown.
func TestChangesThatATagOfOneByteLetsThrough(t *testing.T) {
	w := told("key", 1)
	form := w.Flight[0].Bytes
	through := 0
	for place := 1; place+1 < len(form); place++ {
		once := impl.Do(w, at(impl.EvBend, 0, place, 1))
		for by := range 256 {
			bent := impl.Do(once, at(impl.EvBend, 0, place+1, by))
			after := does(t, "EvBring", bent, at(impl.EvBring, 0))
			want := ""
			if _, ok := wantReadForm(bent.Flight[0].Bytes, "key", 1); ok {
				want = bent.Flight[0].Bytes
				through++
			}
			if after.Forged != want {
				t.Fatalf("bytes from %d on bent by 1 and %d: %q, not %q", place, by, after.Forged, want)
			}
		}
	}
	if through == 0 {
		t.Error("none was let through: the test tells too little")
	}
}

// One that was changed and changed back is as it was sent.
func TestChangedAndChangedBack(t *testing.T) {
	w := told("key", 8)
	form := w.Flight[0].Bytes
	back := bentTo(t, bentTo(t, w, 0, letters(len(form))), 0, form)
	wantWorld(t, "changed back", back, w)
	after := does(t, "EvBring", back, at(impl.EvBring, 0))
	if after.Forged != "" || len(after.Ends[1].Take.Ready) != 1 || after.Ends[1].Take.Ready[0] != "true" {
		t.Errorf("%+v", after)
	}
	bent := impl.Do(impl.Do(w, at(impl.EvBend, 0, 0, 256)), at(impl.EvBend, 0, 3, 0))
	if after := impl.Do(bent, at(impl.EvBring, 0)); after.Forged != "" || len(after.Ends[1].Take.Ready) != 1 {
		t.Errorf("bent by nothing: %+v", after)
	}
}

// Once something is shown, it stays, whatever is brought later.
func TestForgedStays(t *testing.T) {
	w := met("key", 8)
	for seq, text := range []string{"one", "two", "true"} {
		p := parcelOf(w, dataTo(2, seq, text, true))
		if text != "true" {
			p.Sent = "another"
		}
		w.Flight = append(w.Flight, p)
	}
	for _, order := range [][]int{{0, 0, 0}, {1, 0, 0}, {2, 0, 0}, {2, 1, 0}, {1, 1, 0}} {
		x := w
		want := ""
		for _, place := range order {
			if p := x.Flight[place]; want == "" && p.Sent != p.Bytes {
				want = p.Bytes
			}
			x = does(t, "EvBring", x, at(impl.EvBring, place))
			if x.Forged != want {
				t.Errorf("%v: %q, not %q", order, x.Forged, want)
			}
		}
		for _, e := range eventsOfAllKinds() {
			if after := does(t, "any event", x, e); after.Forged != want {
				t.Errorf("%+v: %q", e, after.Forged)
			}
		}
		if after := impl.Calm(x, 30, 1); after.Forged != want {
			t.Errorf("Calm: %q", after.Forged)
		}
	}
	w.Forged = "shown"
	if after := impl.Do(w, at(impl.EvBring, 0)); after.Forged != "shown" {
		t.Errorf("%q", after.Forged)
	}
}

// It is shown whether the end heeds it or not: one that is not Up, or that it is from, or whose life is over.
func TestForgedThatIsNotHeeded(t *testing.T) {
	w := met("key", 8)
	p := parcelOf(w, dataTo(2, 0, "made", true))
	p.Sent = "another"
	w.Flight = []impl.Parcel{p}
	later := copyWorld(w)
	later.Ends[1].Peer = 9
	worlds := map[string]impl.World{
		"not Up":        impl.Do(w, at(impl.EvFall, 2)),
		"turned":        impl.Do(w, at(impl.EvTurn, 0)),
		"a life before": later,
	}
	for what, w := range worlds {
		after := does(t, what, w, at(impl.EvBring, 0))
		want := copyWorld(w)
		want.Flight, want.Forged = nil, p.Bytes
		wantWorld(t, what, after, want)
	}
}

// Nothing is shown by a parcel that is lost, doubled, turned or cut, but by one that is brought alone.
func TestForgedIsOfWhatIsBrought(t *testing.T) {
	w := met("key", 8)
	p := parcelOf(w, dataTo(2, 0, "made", true))
	p.Sent = ""
	w.Flight = []impl.Parcel{p}
	for _, kind := range []int{impl.EvTick, impl.EvLose, impl.EvDouble, impl.EvBend, impl.EvCut, impl.EvTurn} {
		if after := does(t, "another kind", w, at(kind, 0, 1, 0)); after.Forged != "" {
			t.Errorf("kind %d: %q", kind, after.Forged)
		}
	}
	doubled := impl.Do(w, at(impl.EvDouble, 0))
	if after := impl.Do(doubled, at(impl.EvBring, 1)); after.Forged != p.Bytes {
		t.Errorf("a double of a changed one: %+v", after)
	}
	if after := impl.Calm(w, 1, 1); after.Forged != p.Bytes || len(after.Taken) != 1 {
		t.Errorf("brought in a calm: %+v", after)
	}
	if after := impl.Calm(w, 1, 2); after.Forged != "" || len(after.Taken) != 0 || len(after.Flight) != 0 {
		t.Errorf("lost in a calm: %+v", after)
	}
	if after := impl.Calm(doubled, 1, 2); after.Forged != p.Bytes {
		t.Errorf("the second one is brought in a calm: %+v", after)
	}
}
