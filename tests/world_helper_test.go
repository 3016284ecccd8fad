package tests

import (
	"math/rand"
	"slices"
	"strconv"
	"testing"

	"loop.example/kilnwind/impl"
)

// The helpers here follow chapter 7 by means of the models of chapters 2 to 6, with no goroutine and no channel.

func equalWorlds(a, b impl.World) bool {
	same := a.Key == b.Key && a.Width == b.Width && a.Forged == b.Forged && slices.EqualFunc(a.Ends, b.Ends, equalEnds)
	return same && slices.Equal(a.Flight, b.Flight) && slices.Equal(a.Given, b.Given) && slices.Equal(a.Taken, b.Taken)
}

func isNoWorld(w impl.World) bool {
	return equalWorlds(w, impl.World{})
}

// copyWorld is a world whose lists may be changed, but not those of its ends.
func copyWorld(w impl.World) impl.World {
	w.Ends = slices.Clone(w.Ends)
	w.Flight = slices.Clone(w.Flight)
	w.Given = slices.Clone(w.Given)
	w.Taken = slices.Clone(w.Taken)
	return w
}

func wantForm(p impl.Packet, key string, width int) string {
	return sealed(wantBody(p), key, width)
}

// wantReadForm is ReadPacket with a key and a width that are valid.
func wantReadForm(s, key string, width int) (impl.Packet, bool) {
	if len(s) < width || s != sealed(s[width:], key, width) {
		return impl.Packet{}, false
	}
	return wantRead(s[width:])
}

// wantValidWorld is ValidWorld.
func wantValidWorld(w impl.World) bool {
	if len(w.Key) > 30 || w.Width < 1 || w.Width > 8 || len(w.Ends) != 2 || len(w.Flight) > 1000 || len(w.Given)+len(w.Taken) > 400 {
		return false
	}
	for i, e := range w.Ends {
		if e.Number != i+1 || !wantValidEnd(e) {
			return false
		}
	}
	for _, p := range w.Flight {
		if p.To != 1 && p.To != 2 || len(p.Sent) > 100 || len(p.Bytes) > 100 {
			return false
		}
	}
	for _, r := range append(slices.Clone(w.Given), w.Taken...) {
		if r.From != 1 && r.From != 2 || r.A < 1 || r.A > 1000 || r.B < 1 || r.B > 1000 || len(r.Text) > 200 {
			return false
		}
	}
	return true
}

// wantDo is Do of a valid world.
func wantDo(w impl.World, e impl.Event) impl.World {
	after := copyWorld(w)
	switch {
	case e.Kind == 1:
		modelTick(&after)
	case e.Kind >= 2 && e.Kind <= 7 && e.A >= 0 && e.A < len(w.Flight):
		modelParcel(&after, e)
	case e.Kind >= 8 && e.Kind <= 11 && (e.A == 1 || e.A == 2):
		modelEnd(&after, e)
	}
	return after
}

func modelTick(w *impl.World) {
	for i := range w.Ends {
		a := wantBeat(w.Ends[i])
		w.Ends[i] = a.End
		for _, p := range a.Out {
			form := wantForm(p, w.Key, w.Width)
			w.Flight = append(w.Flight, impl.Parcel{To: 2 - i, Sent: form, Bytes: form})
		}
	}
	w.Flight = w.Flight[:min(len(w.Flight), 1000)]
}

func modelParcel(w *impl.World, e impl.Event) {
	p := &w.Flight[e.A]
	switch e.Kind {
	case 2:
		brought := *p
		w.Flight = append(w.Flight[:e.A], w.Flight[e.A+1:]...)
		modelBring(w, brought)
	case 3:
		w.Flight = append(w.Flight, *p)
		w.Flight = w.Flight[:min(len(w.Flight), 1000)]
	case 4:
		w.Flight = append(w.Flight[:e.A], w.Flight[e.A+1:]...)
	case 5:
		if e.B >= 0 && e.B < len(p.Bytes) && e.C >= 0 {
			p.Bytes = p.Bytes[:e.B] + string([]byte{p.Bytes[e.B] ^ byte(uint64(e.C)&255)}) + p.Bytes[e.B+1:]
		}
	case 6:
		if e.B >= 0 && e.B <= len(p.Bytes) {
			p.Bytes = p.Bytes[:e.B]
		}
	case 7:
		p.To = map[int]int{1: 2, 2: 1}[p.To]
	}
}

func modelBring(w *impl.World, p impl.Parcel) {
	packet, ok := wantReadForm(p.Bytes, w.Key, w.Width)
	if !ok {
		return
	}
	if p.Sent != p.Bytes && w.Forged == "" {
		w.Forged = p.Bytes
	}
	w.Ends[p.To-1] = wantReceived(w.Ends[p.To-1], packet).End
}

func modelEnd(w *impl.World, e impl.Event) {
	end := &w.Ends[e.A-1]
	isFull := len(w.Given)+len(w.Taken) == 400
	switch {
	case e.Kind == 8:
		*end = impl.End{Number: e.A, Life: end.Life}
	case e.Kind == 9 && !end.Up && end.Life < 1000:
		*end = impl.End{Number: e.A, Up: true, Life: end.Life + 1}
	case e.Kind == 10 && !isFull:
		if a := wantGiven(*end, e.Text); a.Code == 0 {
			*end = a.End
			w.Given = append(w.Given, impl.Record{From: e.A, A: end.Life, B: end.Peer, Text: e.Text})
		}
	case e.Kind == 11 && !isFull:
		if a := wantTaken(*end); a.Code == 0 {
			*end = a.End
			w.Taken = append(w.Taken, impl.Record{From: 3 - e.A, A: end.Peer, B: end.Life, Text: a.Text})
		}
	}
}

// calmRound is a calm round as a row of events. The counts are those of the parcels of one To and Bytes.
func calmRound(w impl.World, counts map[string]int, every int, do func(impl.World, impl.Event) impl.World) impl.World {
	w = do(w, impl.Event{Kind: impl.EvTick})
	for range len(w.Flight) {
		p := w.Flight[0]
		name := strconv.Itoa(p.To) + " " + p.Bytes
		counts[name]++
		kind := impl.EvLose
		if counts[name]%every == 0 {
			kind = impl.EvBring
		}
		w = do(w, impl.Event{Kind: kind})
	}
	for number := 1; number <= 2; number++ {
		for pulls := 0; pulls < 4 && len(w.Ends[number-1].Take.Ready) > 0; pulls++ {
			w = do(w, impl.Event{Kind: impl.EvPull, A: number})
		}
	}
	return w
}

// calmBy is Calm as rounds of events.
func calmBy(w impl.World, rounds, every int, do func(impl.World, impl.Event) impl.World) impl.World {
	counts := map[string]int{}
	for range rounds {
		w = calmRound(w, counts, every, do)
	}
	return w
}

// wantRight is Right of a valid world.
func wantRight(w impl.World) bool {
	given, taken := map[impl.Record][]string{}, map[impl.Record][]string{}
	for _, r := range w.Given {
		key := impl.Record{From: r.From, A: r.A, B: r.B}
		given[key] = append(given[key], r.Text)
	}
	for _, r := range w.Taken {
		key := impl.Record{From: r.From, A: r.A, B: r.B}
		taken[key] = append(taken[key], r.Text)
	}
	for key, texts := range taken {
		if !isBeginning(texts, given[key]) {
			return false
		}
	}
	return true
}

// wantIdle is Idle of a valid world.
func wantIdle(w impl.World) bool {
	for i, e := range w.Ends {
		other := w.Ends[1-i]
		if !e.Up || e.Peer != other.Life || len(e.Send.Items)+len(e.Take.Held)+len(e.Take.Open)+len(e.Take.Ready) > 0 {
			return false
		}
	}
	return true
}

// wantWorld fails unless two worlds are the same, and tells in what they differ.
func wantWorld(t *testing.T, what string, got, want impl.World) {
	t.Helper()
	if equalWorlds(got, want) {
		return
	}
	if got.Key != want.Key || got.Width != want.Width || got.Forged != want.Forged {
		t.Fatalf("%s: %q %d %q, not %q %d %q", what, got.Key, got.Width, got.Forged, want.Key, want.Width, want.Forged)
	}
	if !slices.EqualFunc(got.Ends, want.Ends, equalEnds) {
		t.Fatalf("%s: ends %+v, not %+v", what, got.Ends, want.Ends)
	}
	if !slices.Equal(got.Flight, want.Flight) {
		t.Fatalf("%s: %d in flight %+v, not %d %+v", what, len(got.Flight), got.Flight, len(want.Flight), want.Flight)
	}
	t.Fatalf("%s: given %+v, taken %+v, not %+v, %+v", what, got.Given, got.Taken, want.Given, want.Taken)
}

// does fails unless an event does what the model says, and gives the world behind it.
func does(t *testing.T, what string, w impl.World, e impl.Event) impl.World {
	t.Helper()
	after := impl.Do(w, e)
	wantWorld(t, what, after, wantDo(w, e))
	return after
}

// stays fails if an event changes anything.
func stays(t *testing.T, what string, w impl.World, e impl.Event) {
	t.Helper()
	wantWorld(t, what, impl.Do(w, e), w)
}

// at is an event of a kind with its numbers.
func at(kind int, numbers ...int) impl.Event {
	n := append(slices.Clone(numbers), 0, 0, 0)
	return impl.Event{Kind: kind, A: n[0], B: n[1], C: n[2]}
}

func pushing(number int, message string) impl.Event {
	return impl.Event{Kind: impl.EvPush, A: number, Text: message}
}

// met is a world in which both ends know of each other, with nothing in flight.
func met(key string, width int) impl.World {
	w := impl.World{Key: key, Width: width}
	for number := 1; number <= 2; number++ {
		w.Ends = append(w.Ends, impl.End{Number: number, Up: true, Life: 1, Peer: 1})
	}
	return w
}

// parcelOf is a packet that is in flight as it was sent.
func parcelOf(w impl.World, p impl.Packet) impl.Parcel {
	form := wantForm(p, w.Key, w.Width)
	return impl.Parcel{To: 3 - p.From, Sent: form, Bytes: form}
}

// dataTo is data for an end, in the first pair of lives.
func dataTo(to, seq int, text string, last bool) impl.Packet {
	return impl.Packet{Kind: impl.PackData, From: 3 - to, Mine: 1, Yours: 1, Seq: seq, Last: last, Part: text}
}

// wordTo is a word for an end, in the first pair of lives.
func wordTo(to, next, mask int) impl.Packet {
	return impl.Packet{Kind: impl.PackWord, From: 3 - to, Mine: 1, Yours: 1, Next: next, Mask: mask}
}

// plain are so many parcels that nothing reads, each another one.
func plain(count int) []impl.Parcel {
	var flight []impl.Parcel
	for i := range count {
		text := "no form of a packet " + strconv.Itoa(i)
		flight = append(flight, impl.Parcel{To: 1 + i%2, Sent: text, Bytes: text})
	}
	return flight
}

// records are so many messages of one pair of lives.
func records(from, count int) []impl.Record {
	var list []impl.Record
	for i := range count {
		list = append(list, impl.Record{From: from, A: 1, B: 1, Text: strconv.Itoa(i)})
	}
	return list
}

// someRecords are any so many records.
func someRecords(source *rand.Rand, count int) []impl.Record {
	lives := []int{1, 1, 1, 2, 999, 1000}
	var list []impl.Record
	for range count {
		r := impl.Record{From: 1 + source.Intn(2), A: lives[source.Intn(6)], B: lives[source.Intn(6)]}
		r.Text = letters([]int{0, 1, 2, 100, 200}[source.Intn(5)])
		list = append(list, r)
	}
	return list
}

// someParcel is any parcel: most are packets that an end may heed, some are changed.
func someParcel(source *rand.Rand, w impl.World) impl.Parcel {
	to := 1 + source.Intn(2)
	p := somePacket(source, w.Ends[to-1])
	if !isPacket(p) {
		return impl.Parcel{To: to, Sent: letters(source.Intn(101)), Bytes: letters(source.Intn(101))}
	}
	parcel := parcelOf(w, p)
	switch source.Intn(6) {
	case 0:
		parcel.To = 1 + source.Intn(2)
	case 1:
		parcel.Sent = "another"
	case 2:
		parcel.Bytes = parcel.Bytes[:source.Intn(len(parcel.Bytes)+1)]
	}
	return parcel
}

// someWorld is a valid world in any state.
func someWorld(source *rand.Rand) impl.World {
	keys := []string{"", "k", "key", letters(30)}
	w := impl.World{Key: keys[source.Intn(4)], Width: 1 + source.Intn(8), Ends: []impl.End{someEnd(source), someEnd(source)}}
	for i := range w.Ends {
		w.Ends[i].Number = i + 1
	}
	for i := range w.Ends {
		if e := &w.Ends[i]; e.Peer != 0 && source.Intn(3) > 0 {
			e.Peer = w.Ends[1-i].Life
		}
	}
	sizes := []int{0, 1, 2, 5, 20, 20, 60, 980, 990, 995, 999, 1000}
	for range sizes[source.Intn(len(sizes))] {
		w.Flight = append(w.Flight, someParcel(source, w))
	}
	if source.Intn(4) == 0 {
		w.Forged = letters([]int{1, 39, 500}[source.Intn(3)])
	}
	histories := []int{0, 0, 3, 20, 393, 398, 399, 400}
	all := someRecords(source, histories[source.Intn(len(histories))])
	given := source.Intn(len(all) + 1)
	w.Given, w.Taken = all[:given:given], all[given:]
	return w
}

// someEvent is any event, most of them such as find something.
func someEvent(source *rand.Rand, w impl.World) impl.Event {
	e := impl.Event{Kind: source.Intn(14) - 1, A: 1 + source.Intn(2), Text: letters([]int{0, 1, 20, 21, 200, 201}[source.Intn(6)])}
	if e.Kind >= 2 && e.Kind <= 7 {
		e.A = source.Intn(len(w.Flight)+3) - 1
		e.B = source.Intn(45) - 1
		e.C = []int{-1, 0, 1, 128, 255, 256, 257, 1 << 40}[source.Intn(8)]
	} else if source.Intn(8) == 0 {
		e.A = []int{-1, 0, 3, 257}[source.Intn(4)]
	}
	return e
}

// someRounds are numbers of rounds and of every for a short calm.
func someRounds(source *rand.Rand) (int, int) {
	return []int{0, 1, 1, 2, 3, 8, 30}[source.Intn(7)], []int{1, 1, 2, 3, 7, 10}[source.Intn(6)]
}

// wrongWorlds are worlds that are not valid, by the reason for it.
func wrongWorlds() map[string]impl.World {
	with := func(change func(*impl.World)) impl.World {
		w := met("key", 8)
		w.Flight = plain(3)
		w.Given, w.Taken = records(1, 3), records(1, 2)
		change(&w)
		return w
	}
	parcel := func(place int, p impl.Parcel) impl.World {
		return with(func(w *impl.World) { w.Flight[place] = p })
	}
	record := func(place int, r impl.Record) impl.World {
		return with(func(w *impl.World) {
			if place < 3 {
				w.Given[place] = r
			} else {
				w.Taken[place-3] = r
			}
		})
	}
	wrong := map[string]impl.World{
		"nothing":                          {},
		"no Ends":                          with(func(w *impl.World) { w.Ends = nil }),
		"one End":                          with(func(w *impl.World) { w.Ends = w.Ends[:1] }),
		"three Ends":                       with(func(w *impl.World) { w.Ends = append(w.Ends, w.Ends[0]) }),
		"Ends with Numbers 2 and 1":        with(func(w *impl.World) { slices.Reverse(w.Ends) }),
		"Ends with Numbers 1 and 1":        with(func(w *impl.World) { w.Ends[1].Number = 1 }),
		"Ends with Numbers 2 and 2":        with(func(w *impl.World) { w.Ends[0].Number = 2 }),
		"Ends with Numbers 1 and 3":        with(func(w *impl.World) { w.Ends[1].Number = 3 }),
		"a key of 31 bytes":                with(func(w *impl.World) { w.Key = letters(31) }),
		"a key of 286 bytes":               with(func(w *impl.World) { w.Key = letters(286) }),
		"Width 0":                          with(func(w *impl.World) { w.Width = 0 }),
		"Width 9":                          with(func(w *impl.World) { w.Width = 9 }),
		"Width -1":                         with(func(w *impl.World) { w.Width = -1 }),
		"1001 in flight":                   with(func(w *impl.World) { w.Flight = plain(1001) }),
		"very many in flight":              with(func(w *impl.World) { w.Flight = make([]impl.Parcel, 100000) }),
		"To 0":                             parcel(0, impl.Parcel{}),
		"To 3":                             parcel(2, impl.Parcel{To: 3}),
		"To -1":                            parcel(1, impl.Parcel{To: -1}),
		"Sent of 101 bytes":                parcel(0, impl.Parcel{To: 1, Sent: letters(101)}),
		"Bytes of 101 bytes":               parcel(2, impl.Parcel{To: 2, Bytes: letters(101)}),
		"Bytes of 356 bytes":               parcel(1, impl.Parcel{To: 2, Bytes: letters(356)}),
		"401 Given":                        with(func(w *impl.World) { w.Given, w.Taken = records(1, 401), nil }),
		"401 Taken":                        with(func(w *impl.World) { w.Given, w.Taken = nil, records(1, 401) }),
		"200 Given and 201 Taken":          with(func(w *impl.World) { w.Given, w.Taken = records(1, 200), records(1, 201) }),
		"very many Taken":                  with(func(w *impl.World) { w.Taken = make([]impl.Record, 100000) }),
		"a Given of nothing":               record(0, impl.Record{}),
		"a Taken of nothing":               record(3, impl.Record{}),
		"both ends, one of them not valid": with(func(w *impl.World) { w.Ends[1].Send.Base = -1 }),
	}
	for place, of := range map[int]string{0: "first Given", 2: "last Given", 3: "first Taken", 4: "last Taken"} {
		wrong[of+": From 0"] = record(place, impl.Record{A: 1, B: 1})
		wrong[of+": From 3"] = record(place, impl.Record{From: 3, A: 1, B: 1})
		wrong[of+": A 0"] = record(place, impl.Record{From: 1, B: 1})
		wrong[of+": A -1"] = record(place, impl.Record{From: 1, A: -1, B: 1})
		wrong[of+": A 1001"] = record(place, impl.Record{From: 2, A: 1001, B: 1})
		wrong[of+": B 0"] = record(place, impl.Record{From: 1, A: 1})
		wrong[of+": B 1001"] = record(place, impl.Record{From: 2, A: 1, B: 1001})
		wrong[of+": a Text of 201 bytes"] = record(place, impl.Record{From: 2, A: 1, B: 1, Text: letters(201)})
	}
	for what, e := range wrongEnds() {
		number := 1 + len(what)%2
		if e.Number == 1 || e.Number == 2 {
			e.Number = number
		}
		wrong["End: "+what] = with(func(w *impl.World) { w.Ends[number-1] = e })
	}
	return wrong
}

// eventsOfAllKinds are events of each kind that find something in most worlds, and some of kinds that are none.
func eventsOfAllKinds() []impl.Event {
	var all []impl.Event
	for kind := -1; kind <= 13; kind++ {
		for a := 0; a <= 2; a++ {
			all = append(all, impl.Event{Kind: kind, A: a, B: 1, C: 1, Text: "text"})
		}
	}
	return all
}
