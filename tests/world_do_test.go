package tests

import (
	"math/rand"
	"testing"

	"loop.example/kilnwind/impl"
)

// loud is a world in which a tick sends eight data and a word of end 1, and two data and a word of end 2.
func loud(inFlight int) (impl.World, []impl.Parcel) {
	w := met("key", 8)
	w.Flight = plain(inFlight)
	w.Ends[0].Send = impl.Send{Base: 3, Items: unsent(9)}
	w.Ends[0].Owes = true
	w.Ends[1].Send = impl.Send{Items: unsent(2)}
	w.Ends[1].Since = 5
	w.Ends[1].Take = impl.Take{Next: 3, Held: heldAt(5)}
	var sent []impl.Parcel
	for i := range 8 {
		sent = append(sent, parcelOf(w, dataTo(2, 3+i, letters(i), false)))
	}
	sent = append(sent, parcelOf(w, wordTo(2, 0, 0)))
	for i := range 2 {
		sent = append(sent, parcelOf(w, dataTo(1, i, letters(i), false)))
	}
	return w, append(sent, parcelOf(w, wordTo(1, 3, 4)))
}

// What end 1 sends is put in flight ahead of what end 2 sends, data ahead of the word, behind what is in flight.
func TestTickOrder(t *testing.T) {
	for _, inFlight := range []int{0, 1, 7, 900} {
		w, sent := loud(inFlight)
		after := does(t, "a tick", w, at(impl.EvTick))
		if len(sent) != 12 || after.Ends[0].Owes || after.Ends[1].Since != 0 {
			t.Errorf("%+v", after.Ends)
		}
		w.Ends, w.Flight = after.Ends, append(plain(inFlight), sent...)
		wantWorld(t, "the order of a tick", after, w)
	}
}

// What finds no room is left out, from end 2's last packet on; the ends do not know of it.
func TestTickWithoutRoom(t *testing.T) {
	for room := 0; room <= 14; room++ {
		w, sent := loud(1000 - room)
		after := does(t, "a tick with little room", w, at(impl.EvTick))
		want := append(plain(1000-room), sent[:min(room, 12)]...)
		if len(after.Flight) != min(1000, 1012-room) {
			t.Errorf("room %d: %d in flight", room, len(after.Flight))
		}
		w.Ends, w.Flight = after.Ends, want
		wantWorld(t, "a tick with little room", after, w)
		if len(after.Ends[0].Send.Items) != 9 || after.Ends[0].Send.Items[7].Since != 0 || after.Ends[1].Send.Items[1].Since != 0 {
			t.Errorf("room %d: %+v", room, after.Ends)
		}
	}
}

func TestTickOfEndsThatAreNotUp(t *testing.T) {
	w, sent := loud(2)
	w = does(t, "end 1 falls", w, at(impl.EvFall, 1))
	after := does(t, "end 2 ticks", w, at(impl.EvTick))
	want := append(plain(2), sent[9:]...)
	w.Ends, w.Flight = after.Ends, want
	wantWorld(t, "end 2 ticks", after, w)
	w = does(t, "end 2 falls", w, at(impl.EvFall, 2))
	stays(t, "none ticks", w, at(impl.EvTick))
}

// Each width and the longest key: what a tick sends is read with them, and with no other.
func TestTickWithEachKeyAndWidth(t *testing.T) {
	for _, width := range []int{1, 2, 4, 8} {
		for _, key := range []string{"", "key", letters(30)} {
			w := met(key, width)
			w.Ends[0].Owes = true
			after := does(t, "a tick", w, at(impl.EvTick))
			want := impl.FormPacket(wordTo(2, 0, 0), key, width)
			if len(after.Flight) != 1 || after.Flight[0] != (impl.Parcel{To: 2, Sent: want, Bytes: want}) || len(want) != width+11 {
				t.Errorf("%+v", after.Flight)
			}
		}
	}
}

// ready is a world with parcels for both ends in flight, all of which change something.
func ready() impl.World {
	w := met("key", 4)
	w.Ends[0].Send.Items = []impl.Item{{Part: impl.Part{Text: "i", Last: true}}}
	for _, p := range []impl.Packet{dataTo(2, 0, "a", true), dataTo(1, 0, "b", true), dataTo(2, 1, "c", true), wordTo(1, 1, 0), dataTo(2, 3, "d", true)} {
		w.Flight = append(w.Flight, parcelOf(w, p))
	}
	return w
}

func TestBring(t *testing.T) {
	w := ready()
	after := does(t, "the first parcel", w, at(impl.EvBring, 0))
	if len(after.Flight) != 4 || after.Flight[0] != w.Flight[1] || after.Forged != "" {
		t.Errorf("%+v", after)
	}
	if e := after.Ends[1]; len(e.Take.Ready) != 1 || e.Take.Ready[0] != "a" || !e.Owes || !equalEnds(after.Ends[0], w.Ends[0]) {
		t.Errorf("%+v", after.Ends)
	}
	after = does(t, "a word in the middle", w, at(impl.EvBring, 3))
	if after.Ends[0].Send.Base != 1 || len(after.Ends[0].Send.Items) != 0 || after.Flight[3] != w.Flight[4] || len(after.Flight) != 4 {
		t.Errorf("%+v", after)
	}
	after = does(t, "the last parcel", w, at(impl.EvBring, 4))
	if len(after.Ends[1].Take.Held) != 1 || len(after.Flight) != 4 || after.Flight[3] != w.Flight[3] {
		t.Errorf("%+v", after)
	}
	for _, place := range []int{-1, 5, 6, 1000, -1 << 63, 1<<63 - 1} {
		stays(t, "no such parcel", w, at(impl.EvBring, place))
	}
	w.Flight = nil
	stays(t, "nothing in flight", w, at(impl.EvBring, 0))
}

// What can't be read, or is not heeded, is taken out all the same.
func TestBringOfWhatChangesNothing(t *testing.T) {
	w := ready()
	form := w.Flight[0].Bytes
	texts := map[string]string{
		"empty":          "",
		"a tag alone":    form[:4],
		"less than that": form[:3],
		"cut":            form[:len(form)-1],
		"longer":         form + "x",
		"another tag":    "xxxx" + form[4:],
		"another width":  wantForm(dataTo(2, 0, "a", true), "key", 8),
		"another key":    wantForm(dataTo(2, 0, "a", true), "Key", 4),
		"no packet":      sealed("\x03"+form[5:], "key", 4),
		"100 bytes":      letters(100),
	}
	for what, text := range texts {
		for _, sent := range []string{text, form, ""} {
			x := copyWorld(w)
			x.Flight[0] = impl.Parcel{To: 2, Sent: sent, Bytes: text}
			after := does(t, what, x, at(impl.EvBring, 0))
			x.Flight = x.Flight[1:]
			wantWorld(t, what, after, x)
		}
	}
	turned := does(t, "turned", w, at(impl.EvTurn, 0))
	after := does(t, "brought to its own end", turned, at(impl.EvBring, 0))
	turned.Flight = turned.Flight[1:]
	wantWorld(t, "brought to its own end", after, turned)
	fallen := does(t, "fallen", w, at(impl.EvFall, 2))
	after = does(t, "brought to one that is not Up", fallen, at(impl.EvBring, 0))
	fallen.Flight = fallen.Flight[1:]
	wantWorld(t, "brought to one that is not Up", after, fallen)
}

func TestLose(t *testing.T) {
	w := ready()
	for place := range w.Flight {
		after := does(t, "EvLose", w, at(impl.EvLose, place))
		want := copyWorld(w)
		want.Flight = append(want.Flight[:place], want.Flight[place+1:]...)
		wantWorld(t, "EvLose", after, want)
	}
	for _, place := range []int{-1, 5, -1 << 63, 1<<63 - 1} {
		stays(t, "no such parcel", w, at(impl.EvLose, place))
	}
}

func TestDouble(t *testing.T) {
	w := ready()
	w.Flight[2] = impl.Parcel{To: 1, Sent: "sent", Bytes: "bytes"}
	for place, p := range w.Flight {
		after := does(t, "EvDouble", w, at(impl.EvDouble, place))
		want := copyWorld(w)
		want.Flight = append(want.Flight, p)
		wantWorld(t, "EvDouble", after, want)
	}
	for _, place := range []int{-1, 5, -1 << 63, 1<<63 - 1} {
		stays(t, "no such parcel", w, at(impl.EvDouble, place))
	}
	w.Flight = plain(999)
	after := does(t, "room for one", w, at(impl.EvDouble, 998))
	if len(after.Flight) != 1000 || after.Flight[999] != w.Flight[998] {
		t.Errorf("%d in flight", len(after.Flight))
	}
	for _, place := range []int{0, 500, 998, 999, 1000} {
		stays(t, "no room", after, at(impl.EvDouble, place))
	}
}

func TestBend(t *testing.T) {
	w := met("key", 8)
	w.Flight = []impl.Parcel{{To: 1, Sent: "sent", Bytes: "\x00\x01\xff"}, {To: 2, Sent: "other", Bytes: "other"}, {To: 2, Sent: "gone"}}
	want := map[impl.Event]string{
		at(impl.EvBend, 0, 0, 1):             "\x01\x01\xff",
		at(impl.EvBend, 0, 0, 255):           "\xff\x01\xff",
		at(impl.EvBend, 0, 1, 1):             "\x00\x00\xff",
		at(impl.EvBend, 0, 1, 129):           "\x00\x80\xff",
		at(impl.EvBend, 0, 2, 255):           "\x00\x01\x00",
		at(impl.EvBend, 0, 2, 16):            "\x00\x01\xef",
		at(impl.EvBend, 0, 1, 257):           "\x00\x00\xff",
		at(impl.EvBend, 0, 1, 511):           "\x00\xfe\xff",
		at(impl.EvBend, 0, 2, 1<<63-1):       "\x00\x01\x00",
		at(impl.EvBend, 0, 2, 1<<40+2):       "\x00\x01\xfd",
		at(impl.EvBend, 0, 0, 0):             "\x00\x01\xff",
		at(impl.EvBend, 0, 2, 256):           "\x00\x01\xff",
		at(impl.EvBend, 0, 0, 512):           "\x00\x01\xff",
		at(impl.EvBend, 0, 0, -1):            "\x00\x01\xff",
		at(impl.EvBend, 0, 0, -255):          "\x00\x01\xff",
		at(impl.EvBend, 0, 0, -1<<63):        "\x00\x01\xff",
		at(impl.EvBend, 0, 3, 1):             "\x00\x01\xff",
		at(impl.EvBend, 0, -1, 1):            "\x00\x01\xff",
		at(impl.EvBend, 0, 1<<63-1, 1):       "\x00\x01\xff",
		at(impl.EvBend, 0, -1<<63, 1):        "\x00\x01\xff",
		at(impl.EvBend, -1, 0, 1):            "\x00\x01\xff",
		at(impl.EvBend, 2, 0, 1):             "\x00\x01\xff",
		at(impl.EvBend, 3, 0, 1):             "\x00\x01\xff",
		at(impl.EvBend, -1<<63, 0, 1):        "\x00\x01\xff",
		at(impl.EvBend, 1<<63-1, 1<<63-1, 1): "\x00\x01\xff",
	}
	for e, bytes := range want {
		x := copyWorld(w)
		x.Flight[0].Bytes = bytes
		wantWorld(t, "EvBend", does(t, "EvBend", w, e), x)
	}
	after := does(t, "another parcel", w, at(impl.EvBend, 1, 4, 32))
	if after.Flight[1] != (impl.Parcel{To: 2, Sent: "other", Bytes: "otheR"}) {
		t.Errorf("%+v", after.Flight)
	}
}

func TestCutOfParcels(t *testing.T) {
	w := met("key", 8)
	w.Flight = []impl.Parcel{{To: 1, Sent: "sent", Bytes: "bytes"}, {To: 2, Sent: "other"}}
	for size := 0; size <= 5; size++ {
		after := does(t, "EvCut", w, at(impl.EvCut, 0, size))
		want := copyWorld(w)
		want.Flight[0].Bytes = "bytes"[:size]
		wantWorld(t, "EvCut", after, want)
	}
	for _, size := range []int{-1, 6, 100, -1 << 63, 1<<63 - 1} {
		stays(t, "more than there are", w, at(impl.EvCut, 0, size))
	}
	stays(t, "nothing of nothing", w, at(impl.EvCut, 1, 0))
	stays(t, "one of nothing", w, at(impl.EvCut, 1, 1))
	for _, place := range []int{-1, 2, -1 << 63, 1<<63 - 1} {
		stays(t, "no such parcel", w, at(impl.EvCut, place, 0))
	}
}

func TestTurn(t *testing.T) {
	w := ready()
	for place := range w.Flight {
		after := does(t, "EvTurn", w, at(impl.EvTurn, place))
		want := copyWorld(w)
		want.Flight[place].To = 3 - want.Flight[place].To
		wantWorld(t, "EvTurn", after, want)
		wantWorld(t, "turned back", impl.Do(after, at(impl.EvTurn, place)), w)
	}
	for _, place := range []int{-1, 5, -1 << 63, 1<<63 - 1} {
		stays(t, "no such parcel", w, at(impl.EvTurn, place))
	}
}

func TestFallAndRiseInAWorld(t *testing.T) {
	w, _ := loud(3)
	w.Given, w.Taken, w.Forged = records(1, 2), records(1, 1), "f"
	for number := 1; number <= 2; number++ {
		fallen := does(t, "EvFall", w, at(impl.EvFall, number))
		want := copyWorld(w)
		want.Ends[number-1] = impl.End{Number: number, Life: 1}
		wantWorld(t, "EvFall", fallen, want)
		stays(t, "falls again", fallen, at(impl.EvFall, number))
		stays(t, "rises while Up", w, at(impl.EvRise, number))
		risen := does(t, "EvRise", fallen, at(impl.EvRise, number))
		want.Ends[number-1] = impl.End{Number: number, Up: true, Life: 2}
		wantWorld(t, "EvRise", risen, want)
		want.Ends[number-1] = impl.End{Number: number, Life: 999}
		last := does(t, "the last life", want, at(impl.EvRise, number))
		if !last.Ends[number-1].Up || last.Ends[number-1].Life != 1000 {
			t.Errorf("%+v", last.Ends)
		}
		want.Ends[number-1] = impl.End{Number: number, Life: 1000}
		stays(t, "no life is left", want, at(impl.EvRise, number))
	}
	for _, number := range []int{0, 3, -1, 257, -1 << 63, 1<<63 - 1} {
		stays(t, "no such end falls", w, at(impl.EvFall, number))
		stays(t, "no such end rises", w, at(impl.EvRise, number))
	}
}

func TestPushInAWorld(t *testing.T) {
	w := met("key", 8)
	w.Ends[0].Life, w.Ends[1].Peer = 5, 5
	w.Ends[0].Peer, w.Ends[1].Life = 9, 9
	w.Given = []impl.Record{said(1, 4, 9, "before")}
	for _, message := range []string{"", "m", letters(20), letters(21), letters(200)} {
		after := does(t, "EvPush", w, pushing(1, message))
		want := copyWorld(w)
		want.Ends[0].Send.Items = wantItems(message)
		want.Given = append(want.Given, said(1, 5, 9, message))
		wantWorld(t, "EvPush", after, want)
		after = does(t, "EvPush", w, pushing(2, message))
		want = copyWorld(w)
		want.Ends[1].Send.Items = wantItems(message)
		want.Given = append(want.Given, said(2, 9, 5, message))
		wantWorld(t, "EvPush", after, want)
	}
	stays(t, "too long", w, pushing(1, letters(201)))
	for _, number := range []int{0, 3, -1, 258, -1 << 63, 1<<63 - 1} {
		stays(t, "no such end", w, pushing(number, "m"))
	}
	full := copyWorld(w)
	full.Ends[0].Send.Items = unsent(60)
	stays(t, "no room for parts", full, pushing(1, ""))
	full.Ends[0].Send.Items = unsent(51)
	stays(t, "no room for all parts", full, pushing(1, letters(200)))
	stays(t, "it knows of no life", impl.NewWorld("key", 8), pushing(1, "m"))
	stays(t, "it is not Up", does(t, "falls", w, at(impl.EvFall, 2)), pushing(2, "m"))
}

func TestPullInAWorld(t *testing.T) {
	w := met("key", 8)
	w.Ends[0].Life, w.Ends[1].Peer = 5, 5
	w.Ends[0].Peer, w.Ends[1].Life = 9, 9
	w.Ends[0].Take = impl.Take{Next: 3, Ready: []string{"a", "", "b"}}
	w.Ends[1].Take = impl.Take{Next: 1, Ready: []string{letters(200)}}
	w.Taken = []impl.Record{said(1, 4, 9, "before")}
	x := w
	for i, message := range []string{"a", "", "b"} {
		after := does(t, "EvPull", x, at(impl.EvPull, 1))
		want := copyWorld(x)
		want.Ends[0].Owes = true
		want.Ends[0].Take.Ready = []string{"a", "", "b"}[i+1:]
		want.Taken = append(want.Taken, said(2, 9, 5, message))
		wantWorld(t, "EvPull", after, want)
		x = after
	}
	stays(t, "nothing is Ready", x, at(impl.EvPull, 1))
	after := does(t, "EvPull", x, at(impl.EvPull, 2))
	if len(after.Taken) != 5 || after.Taken[4] != said(1, 5, 9, letters(200)) || !after.Ends[1].Owes {
		t.Errorf("%+v", after)
	}
	for _, number := range []int{0, 3, -1, 258, -1 << 63, 1<<63 - 1} {
		stays(t, "no such end", w, at(impl.EvPull, number))
	}
	stays(t, "it is not Up", does(t, "falls", w, at(impl.EvFall, 2)), at(impl.EvPull, 2))
}

// The history may be met exactly; one more message is neither given nor taken.
func TestHistoryIsFull(t *testing.T) {
	for _, given := range []int{0, 1, 200, 399} {
		w := met("key", 8)
		w.Ends[1].Take.Ready = []string{"a", "b"}
		w.Given, w.Taken = records(1, given), records(1, 399-given)
		pushed := does(t, "the last push", w, pushing(1, "m"))
		pulled := does(t, "the last pull", w, at(impl.EvPull, 2))
		if len(pushed.Given) != given+1 || len(pulled.Taken) != 400-given {
			t.Errorf("%d given, %d taken", len(pushed.Given), len(pulled.Taken))
		}
		for _, full := range []impl.World{pushed, pulled} {
			stays(t, "one more push", full, pushing(1, "m"))
			stays(t, "one more push of the other end", full, pushing(2, "m"))
			stays(t, "one more pull", full, at(impl.EvPull, 2))
		}
	}
}

// Any event in any world, as the model has it; P12: a valid world stays valid.
func TestAnyEvent(t *testing.T) {
	source := rand.New(rand.NewSource(35))
	changed := map[int]int{}
	for range 1500 {
		w := someWorld(source)
		for range 8 {
			e := someEvent(source, w)
			after := does(t, "an event", w, e)
			if !impl.ValidWorld(after) || !wantValidWorld(after) {
				t.Fatalf("%+v led to a world that is not valid: %+v", e, after)
			}
			if !equalWorlds(after, w) {
				changed[e.Kind]++
			}
			w = after
		}
	}
	for kind := -1; kind <= 13; kind++ {
		if isKind := kind >= 1 && kind <= 11; isKind != (changed[kind] > 40) {
			t.Errorf("kind %d changed %d worlds", kind, changed[kind])
		}
	}
}

// P12: an event that finds nothing leaves the world as it is.
func TestEventsThatFindNothing(t *testing.T) {
	source := rand.New(rand.NewSource(36))
	for range 300 {
		w := someWorld(source)
		for _, kind := range []int{0, -1, 12, 13, 257, 258, 1<<32 + 1, -1 << 63, 1<<63 - 1} {
			e := someEvent(source, w)
			e.Kind = kind
			stays(t, "no such kind", w, e)
		}
		for kind := impl.EvBring; kind <= impl.EvTurn; kind++ {
			for _, place := range []int{len(w.Flight), len(w.Flight) + 1, -1, -1 << 63, 1<<63 - 1} {
				stays(t, "no such parcel", w, at(kind, place, 0, 1))
			}
		}
		for kind := impl.EvFall; kind <= impl.EvPull; kind++ {
			for _, number := range []int{0, 3, -1, -1 << 63, 1<<63 - 1} {
				stays(t, "no such end", w, impl.Event{Kind: kind, A: number, Text: "m"})
			}
		}
		for place, p := range w.Flight[:min(len(w.Flight), 5)] {
			stays(t, "no such byte", w, at(impl.EvBend, place, len(p.Bytes), 1))
			stays(t, "less than nothing", w, at(impl.EvBend, place, 0, -1))
			stays(t, "not so many bytes", w, at(impl.EvCut, place, len(p.Bytes)+1))
		}
	}
}
