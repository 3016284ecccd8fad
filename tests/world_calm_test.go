package tests

import (
	"math/rand"
	"slices"
	"testing"

	"loop.example/kilnwind/impl"
)

// A calm of no rounds changes nothing, nor does one of fewer.
func TestCalmOfNoRounds(t *testing.T) {
	source := rand.New(rand.NewSource(37))
	for range 100 {
		w := someWorld(source)
		for _, rounds := range []int{0, -1, -2, -5000, -1 << 63} {
			for _, every := range []int{1, 2, 10} {
				wantWorld(t, "no rounds", impl.Calm(w, rounds, every), w)
			}
		}
	}
}

// How many rounds went by is told by Since: in each it is one more, up to a word.
func TestCalmOfTheMostRounds(t *testing.T) {
	w := impl.NewWorld("key", 8)
	w.Ends[1] = impl.End{Number: 2, Life: 1}
	for _, rounds := range []int{1, 2, 5, 6, 7, 4999, 5000} {
		if after := impl.Calm(w, rounds, 1); after.Ends[0].Since != rounds%6 {
			t.Errorf("%d rounds: Since is %d", rounds, after.Ends[0].Since)
		}
	}
	most := impl.Calm(w, 5000, 3)
	for _, rounds := range []int{5001, 5002, 5003, 10001, 1 << 40, 1<<63 - 1} {
		wantWorld(t, "more than MaxCalm", impl.Calm(w, rounds, 3), most)
	}
	if equalWorlds(most, impl.Calm(w, 4999, 3)) {
		t.Error("4999 rounds are 5000")
	}
}

func TestCalmOfAWrongEvery(t *testing.T) {
	for _, w := range []impl.World{impl.NewWorld("key", 8), ready()} {
		for _, every := range []int{0, -1, 11, 12, 257, 1<<32 + 1, -1 << 63, 1<<63 - 1} {
			for _, rounds := range []int{-1, 0, 1, 100} {
				if after := impl.Calm(w, rounds, every); !isNoWorld(after) {
					t.Errorf("every %d: %+v", every, after)
				}
			}
		}
		for every := 1; every <= 10; every++ {
			if after := impl.Calm(w, 1, every); !impl.ValidWorld(after) {
				t.Errorf("every %d: %+v", every, after)
			}
		}
	}
}

// A round ticks, then brings, then pulls: what is sent in a round is brought and pulled in it, and a word for it goes
// out in the next.
func TestOrderOfACalmRound(t *testing.T) {
	w := met("key", 8)
	w = impl.Do(w, pushing(1, "one"))
	w = impl.Do(w, pushing(2, "two"))
	after := impl.Calm(w, 1, 1)
	want := copyWorld(w)
	for i := range want.Ends {
		e := &want.Ends[i]
		e.Since, e.Owes = 1, true
		e.Send.Items = []impl.Item{{Part: e.Send.Items[0].Part}}
		e.Take = impl.Take{Next: 1}
	}
	// End 1 pulls ahead of end 2, so that the message of end 2 was taken first.
	want.Taken = []impl.Record{said(2, 1, 1, "two"), said(1, 1, 1, "one")}
	wantWorld(t, "the first round", after, want)
	after = impl.Calm(after, 1, 1)
	for i := range want.Ends {
		want.Ends[i] = impl.End{Number: i + 1, Up: true, Life: 1, Peer: 1, Send: impl.Send{Base: 1}, Take: impl.Take{Next: 1}}
	}
	wantWorld(t, "the second round", after, want)
}

// Parcels are brought from the first on, those that were in flight ahead of those of the tick: of two parts with one
// number the first that comes is held.
func TestCalmBringsInTheOrderOfTheFlight(t *testing.T) {
	for _, texts := range [][]string{{}, {"a"}, {"a", "b"}, {"b", "a"}} {
		w := met("key", 8)
		for _, text := range texts {
			w.Flight = append(w.Flight, parcelOf(w, dataTo(2, 0, text, true)))
		}
		w = impl.Do(w, pushing(1, "sent"))
		after := impl.Calm(w, 1, 1)
		if len(after.Taken) != 1 || after.Taken[0].Text != append(texts, "sent")[0] {
			t.Errorf("%q: %+v", texts, after.Taken)
		}
	}
}

// broughtOf are the numbers of the parts that have come to end 2 behind a calm round.
func broughtOf(t *testing.T, w impl.World, every int) []int {
	t.Helper()
	after := impl.Calm(w, 1, every)
	wantWorld(t, "Calm", after, calmBy(w, 1, every, wantDo))
	var seqs []int
	for seq := range after.Ends[1].Take.Next {
		seqs = append(seqs, seq)
	}
	for _, held := range after.Ends[1].Take.Held {
		seqs = append(seqs, held.Seq)
	}
	return seqs
}

// inFlight is a world with data of these numbers in flight to end 2.
func inFlight(seqs ...int) impl.World {
	w := met("key", 8)
	for _, seq := range seqs {
		w.Flight = append(w.Flight, parcelOf(w, dataTo(2, seq, "p", false)))
	}
	return w
}

// Of parcels with the same To and Bytes every so many is brought, and each text is counted on its own.
func TestEvery(t *testing.T) {
	w := inFlight(1, 2, 1, 3, 2, 1, 4, 4, 4, 4)
	want := map[int][]int{1: {1, 2, 3, 4}, 2: {1, 2, 4}, 3: {1, 4}, 4: {4}, 5: nil, 10: nil}
	for every, seqs := range want {
		if got := broughtOf(t, w, every); !slices.Equal(got, seqs) {
			t.Errorf("every %d: %v", every, got)
		}
	}
	if got := broughtOf(t, inFlight(slices.Repeat([]int{5}, 9)...), 10); len(got) != 0 {
		t.Errorf("nine of ten: %v", got)
	}
	if got := broughtOf(t, inFlight(slices.Repeat([]int{5}, 10)...), 10); !slices.Equal(got, []int{5}) {
		t.Errorf("ten of ten: %v", got)
	}
}

// Each multiple is brought, not the first alone. End 1 takes end 2 for a life that is to come, so that its data is never
// heeded and goes out in rounds 1, 5, 9 ..; end 2 owes a word behind each that is brought, and has said it by the next.
func TestEveryMultipleIsBrought(t *testing.T) {
	w := met("key", 8)
	w.Ends[0].Peer = 5
	w.Ends[0].Send.Items = unsent(1)
	for every := 1; every <= 10; every++ {
		for count := 1; count <= 31; count++ {
			after := impl.Calm(w, 4*count-3, every)
			if after.Ends[1].Owes != (count%every == 0) {
				t.Errorf("every %d: the parcel with number %d: %v", every, count, after.Ends[1].Owes)
			}
		}
	}
}

// The same Bytes to another end are others; the same To and Bytes are the same, whatever was Sent.
func TestWhatIsCounted(t *testing.T) {
	w := inFlight(1, 1)
	w.Flight[0].To = 1
	if got := broughtOf(t, w, 2); len(got) != 0 {
		t.Errorf("to two ends: %v", got)
	}
	w.Flight[0].To = 2
	w.Flight[0].Sent = "another"
	if got := broughtOf(t, w, 2); !slices.Equal(got, []int{1}) {
		t.Errorf("sent as another: %v", got)
	}
	if after := impl.Calm(w, 1, 2); after.Forged != "" {
		t.Errorf("the second is as it was sent: %q", after.Forged)
	}
	slices.Reverse(w.Flight)
	if after := impl.Calm(w, 1, 2); after.Forged != w.Flight[1].Bytes {
		t.Errorf("the second was sent as another: %q", after.Forged)
	}
	if after := impl.Calm(w, 1, 3); after.Forged != "" {
		t.Errorf("both are lost: %q", after.Forged)
	}
}

// Counts go on from round to round, and begin anew with each Calm.
func TestCountsAreOfOneCalm(t *testing.T) {
	w := met("key", 8)
	w = impl.Do(w, pushing(1, "m"))
	// It is sent in rounds 1, 5, 9 ..: with every 2 it is brought in round 5, with every 3 in round 9.
	for every, first := range map[int]int{1: 1, 2: 5, 3: 9, 4: 13} {
		for rounds := range 20 {
			after := impl.Calm(w, rounds, every)
			if taken := len(after.Taken); taken != 0 != (rounds >= first) {
				t.Errorf("every %d, %d rounds: %d taken", every, rounds, taken)
			}
		}
	}
	x := w
	for range 10 {
		x = impl.Calm(x, 4, 2)
	}
	if len(x.Taken) != 0 {
		t.Error("ten Calms that take it out once each: it was brought")
	}
	if y := impl.Calm(x, 5, 2); len(y.Taken) != 1 {
		t.Error("one Calm that takes it out twice: it was not brought")
	}
	x = impl.Calm(impl.Calm(w, 4, 3), 5, 3)
	if len(x.Taken) != 0 {
		t.Error("once and twice: it was brought as the third")
	}
}

// Ready is pulled, MaxReady times at most for each end, also where a pull makes another message ready.
func TestCalmPullsNoMoreThanMaxReady(t *testing.T) {
	w := met("key", 8)
	var held []impl.Held
	for seq := 4; seq < 12; seq++ {
		held = append(held, impl.Held{Seq: seq, Part: numbered(seq)})
		held[seq-4].Part.Last = true
	}
	for i := range w.Ends {
		w.Ends[i].Take = impl.Take{Next: 4, Held: slices.Clone(held), Ready: []string{"<0>", "<1>", "<2>", "<3>"}}
	}
	after := impl.Calm(w, 1, 1)
	var want []impl.Record
	for number := 1; number <= 2; number++ {
		for seq := range 4 {
			want = append(want, said(3-number, 1, 1, numbered(seq).Text))
		}
	}
	if !slices.Equal(after.Taken, want) || len(after.Ends[0].Take.Ready) != 4 || after.Ends[1].Take.Next != 8 {
		t.Errorf("%+v", after)
	}
	after = impl.Calm(w, 3, 1)
	if len(after.Taken) != 24 || len(after.Ends[0].Take.Ready) != 0 || after.Ends[1].Take.Next != 12 {
		t.Errorf("%+v", after)
	}
	wantWorld(t, "three rounds", after, calmBy(w, 3, 1, wantDo))
}

func TestCalmWithLittleHistory(t *testing.T) {
	for room := range 7 {
		w := met("key", 8)
		w.Given = records(1, 400-room)
		w.Ends[0].Take.Ready = []string{"a", "b"}
		w.Ends[1].Take.Ready = []string{"c", "d", "e"}
		after := impl.Calm(w, 2, 1)
		want := []impl.Record{said(2, 1, 1, "a"), said(2, 1, 1, "b"), said(1, 1, 1, "c"), said(1, 1, 1, "d"), said(1, 1, 1, "e")}
		if !slices.Equal(after.Taken, want[:min(room, 5)]) || len(after.Ends[0].Take.Ready) != 2-min(room, 2) {
			t.Errorf("room %d: %+v", room, after)
		}
		wantWorld(t, "little room", after, calmBy(w, 2, 1, wantDo))
	}
}

// With a full flight a tick's packets find no room, also in a calm; then there is room.
func TestCalmWithAFullFlight(t *testing.T) {
	w, _ := loud(1000)
	after := impl.Calm(w, 1, 1)
	if len(after.Flight) != 0 || after.Ends[1].Take.Next != 3 || len(after.Ends[1].Take.Held) != 1 || after.Ends[0].Send.Items[0].Since != 0 {
		t.Errorf("%+v", after)
	}
	for _, room := range []int{0, 1, 8, 11, 12, 13} {
		w, _ := loud(1000 - room)
		for _, every := range []int{1, 2, 3} {
			wantWorld(t, "a full flight", impl.Calm(w, 6, every), calmBy(w, 6, every, wantDo))
		}
	}
}

// Any calm of any world is a row of events, as the model has it and as Do does them; P12: a valid world stays valid.
func TestAnyCalm(t *testing.T) {
	source := rand.New(rand.NewSource(38))
	for range 200 {
		w := someWorld(source)
		rounds, every := someRounds(source)
		after := impl.Calm(w, rounds, every)
		wantWorld(t, "Calm", after, calmBy(w, rounds, every, wantDo))
		if !impl.ValidWorld(after) || !wantValidWorld(after) {
			t.Fatalf("not valid: %+v", after)
		}
		if len(w.Flight) < 100 {
			wantWorld(t, "Calm by events", after, calmBy(w, rounds, every, impl.Do))
		}
	}
}

// P11: Calm of a and then of b rounds with every 1 is Calm of a + b rounds.
func TestCalmBehindCalm(t *testing.T) {
	source := rand.New(rand.NewSource(39))
	for range 150 {
		w := someWorld(source)
		a, b := source.Intn(20), source.Intn(20)
		wantWorld(t, "a and then b", impl.Calm(impl.Calm(w, a, 1), b, 1), impl.Calm(w, a+b, 1))
	}
	w := impl.NewWorld("key", 8)
	w.Ends[1] = impl.End{Number: 2, Life: 7}
	for _, a := range []int{0, 1, 2500, 4998, 4999, 5000} {
		wantWorld(t, "MaxCalm together", impl.Calm(impl.Calm(w, a, 1), 5000-a, 1), impl.Calm(w, 5000, 1))
		wantWorld(t, "nothing behind", impl.Calm(impl.Calm(w, a, 1), 0, 1), impl.Calm(w, a, 1))
	}
}

// P11 says nothing of another every: what was taken out once by one Calm is not counted by the next.
func TestCalmBehindCalmWithEveryTwo(t *testing.T) {
	w := met("key", 8)
	w = impl.Do(w, pushing(1, "m"))
	once := impl.Calm(w, 8, 2)
	twice := impl.Calm(impl.Calm(w, 4, 2), 4, 2)
	if len(once.Taken) != 1 || len(twice.Taken) != 0 {
		t.Errorf("%d and %d taken", len(once.Taken), len(twice.Taken))
	}
}
