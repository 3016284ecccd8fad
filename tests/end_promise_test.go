package tests

import (
	"math/rand"
	"slices"
	"testing"

	"loop.example/kilnwind/impl"
)

// link is two ends, and the packets that are on their way between them.
type link struct {
	ends   [2]impl.End
	flight []impl.Packet
	count  map[string]int
}

func newLink() *link {
	return &link{ends: [2]impl.End{impl.NewEnd(1), impl.NewEnd(2)}, count: map[string]int{}}
}

// tick is a tick of both ends.
func (l *link) tick() {
	for i := range l.ends {
		a := impl.EndTick(l.ends[i])
		l.ends[i] = a.End
		l.flight = append(l.flight, a.Out...)
	}
}

// bringAll brings each packet to the end that it is not from.
func (l *link) bringAll() {
	for _, p := range l.flight {
		e := &l.ends[2-p.From]
		*e = impl.EndTake(*e, p).End
	}
	l.flight = nil
}

// step is something that may happen with one of the ends, as the model has it and as the program does.
func (l *link) step(source *rand.Rand, i int) (string, impl.Acted, impl.Acted) {
	e := l.ends[i]
	switch source.Intn(12) {
	case 0, 1, 2:
		return "tick", impl.EndTick(e), wantBeat(e)
	case 3:
		message := someMessages(source, 1)[0]
		return "push", impl.EndPush(e, message), wantGiven(e, message)
	case 4:
		return "pull", impl.EndPull(e), wantTaken(e)
	case 5:
		if source.Intn(10) > 0 || e.Life > 900 {
			p := somePacket(source, e)
			p.Mine = min(p.Mine, e.Peer)
			return "stray", impl.EndTake(e, p), wantReceived(e, p)
		}
		return "fall", impl.Acted{End: impl.EndFall(e)}, impl.Acted{End: impl.End{Number: e.Number, Life: e.Life}}
	case 6:
		want := e
		if !e.Up {
			want = impl.End{Number: e.Number, Up: true, Life: e.Life + 1}
		}
		return "rise", impl.Acted{End: impl.EndRise(e)}, impl.Acted{End: want}
	}
	if len(l.flight) == 0 {
		return "nothing", impl.Acted{End: e}, impl.Acted{End: e}
	}
	place := source.Intn(min(len(l.flight), 1+source.Intn(20)))
	p := l.flight[place]
	switch source.Intn(10) {
	case 0: // it stays in flight, and comes once more
	case 1:
		l.flight = slices.Delete(l.flight, place, place+1)
		return "loss", impl.Acted{End: e}, impl.Acted{End: e}
	default:
		l.flight = slices.Delete(l.flight, place, place+1)
	}
	return "packet", impl.EndTake(e, p), wantReceived(e, p)
}

// P6: a valid end stays valid; all that it sends is valid, from its Number and with its Life.
// P7: within one pair of lives its Base and Next never become less; a new pair begins with nothing.
func TestTwoEnds(t *testing.T) {
	source := rand.New(rand.NewSource(29))
	for range 60 {
		l := newLink()
		for range 1500 {
			i := source.Intn(2)
			before := l.ends[i]
			what, got, want := l.step(source, i)
			wantActed(t, what, got, want)
			l.count[what]++
			if got.Code != 0 {
				continue
			}
			keepsP6(t, what, got)
			if keepsP7(t, what, before, got.End) {
				l.count["new pair"]++
			}
			l.ends[i] = got.End
			l.flight = append(l.flight, got.Out...)
		}
		for _, what := range []string{"tick", "push", "pull", "stray", "fall", "rise", "loss", "packet", "new pair"} {
			if l.count[what] == 0 {
				t.Errorf("no %s: the test tells too little", what)
			}
		}
	}
}

func keepsP6(t *testing.T, what string, a impl.Acted) {
	t.Helper()
	if !impl.ValidEnd(a.End) || !wantValidEnd(a.End) {
		t.Fatalf("%s: not valid: %+v", what, a.End)
	}
	for _, p := range a.Out {
		if !isPacket(p) || impl.FormPacket(p, "k", 8) == "" || p.From != a.End.Number || p.Mine != a.End.Life || p.Yours != a.End.Peer {
			t.Fatalf("%s: %+v sends %+v", what, a.End, p)
		}
	}
}

// keepsP7 says whether a new pair of lives has begun.
func keepsP7(t *testing.T, what string, before, after impl.End) bool {
	t.Helper()
	if before.Life == after.Life && before.Peer == after.Peer {
		if after.Send.Base < before.Send.Base || after.Take.Next < before.Take.Next {
			t.Fatalf("%s: %+v became %+v", what, before, after)
		}
		return false
	}
	// What a first packet brings may be there already: one part.
	if !isNoSend(after.Send) || after.Take.Next > 1 || len(after.Take.Held)+len(after.Take.Ready) > 1 || len(after.Take.Open) > 20 {
		t.Fatalf("%s: %+v became %+v", what, before, after)
	}
	return true
}

// P6: from any valid end, whatever is done.
func TestAnyEndStaysValid(t *testing.T) {
	source := rand.New(rand.NewSource(30))
	for range 3000 {
		e := someEnd(source)
		for range 20 {
			var a impl.Acted
			switch source.Intn(6) {
			case 0:
				a = impl.EndPush(e, someMessages(source, 1)[0])
			case 1:
				a = impl.EndPull(e)
			case 2:
				a = impl.EndTick(e)
			case 3:
				a = impl.Acted{End: impl.EndRise(e)}
			default:
				a = impl.EndTake(e, somePacket(source, e))
			}
			if a.Code != 0 {
				wantActed(t, "a code", a, impl.Acted{Code: a.Code})
				continue
			}
			keepsP6(t, "a step", a)
			keepsP7(t, "a step", e, a.End)
			e = a.End
		}
	}
}

// P7: what a new pair is like hangs on nothing of the pair before.
func TestNewPairForgetsTheOldOne(t *testing.T) {
	source := rand.New(rand.NewSource(31))
	began := 0
	for range 5000 {
		e := someEnd(source)
		p := somePacket(source, e)
		after := impl.EndTake(e, p).End
		if after.Peer == e.Peer {
			continue
		}
		began++
		empty := impl.End{Number: e.Number, Up: true, Life: e.Life, Since: e.Since}
		if want := impl.EndTake(empty, p).End; !equalEnds(after, want) {
			t.Fatalf("%+v: %+v, not %+v", p, after, want)
		}
	}
	if began < 500 {
		t.Errorf("%d began: the test tells too little", began)
	}
}

// Two ends find each other, hand over messages, and find each other again when one has fallen and risen.
func TestTwoEndsTalk(t *testing.T) {
	l := newLink()
	for tick := 1; tick <= 5; tick++ {
		l.tick()
		if len(l.flight) != 0 {
			t.Fatalf("tick %d: %+v", tick, l.flight)
		}
	}
	word := func(from, mine, yours, next int) impl.Packet {
		return impl.Packet{Kind: impl.PackWord, From: from, Mine: mine, Yours: yours, Next: next}
	}
	l.ticksTo(t, "the first words", word(1, 1, 0, 0), word(2, 1, 0, 0))
	l.ticksTo(t, "words to lives that are known", word(1, 1, 1, 0), word(2, 1, 1, 0))
	l.ticksTo(t, "nothing is owed")
	a := impl.EndPush(l.ends[0], "hello there, this is more than one part")
	l.ends[0] = a.End
	first := impl.Packet{Kind: impl.PackData, From: 1, Mine: 1, Yours: 1, Part: "hello there, this is"}
	second := impl.Packet{Kind: impl.PackData, From: 1, Mine: 1, Yours: 1, Seq: 1, Last: true, Part: " more than one part"}
	l.ticksTo(t, "data", first, second)
	l.ticksTo(t, "a word for it", word(2, 1, 1, 2))
	if !equalSends(l.ends[0].Send, impl.Send{Base: 2}) {
		t.Errorf("%+v", l.ends[0].Send)
	}
	a = impl.EndPull(l.ends[1])
	if a.Code != 0 || a.Text != "hello there, this is more than one part" {
		t.Errorf("%+v", a)
	}
	l.ends[1] = impl.EndRise(impl.EndFall(a.End))
	l.ticksTo(t, "a new life is silent at first")
	l.ticksTo(t, "and at its second tick")
	l.ticksTo(t, "the old life goes on", word(1, 1, 1, 0))
	if e := l.ends[1]; e.Life != 2 || e.Peer != 1 || !e.Owes || !isNoTake(e.Take) {
		t.Errorf("%+v", e)
	}
	l.ticksTo(t, "the new life tells of itself", word(2, 2, 1, 0))
	if !equalEnds(l.ends[0], impl.End{Number: 1, Up: true, Life: 1, Peer: 2, Since: 1, Owes: true}) {
		t.Errorf("%+v", l.ends[0])
	}
	staysAt(t, "a word of the life before", l.ends[0], word(2, 1, 1, 2))
	l.ticksTo(t, "the pair is known to both", word(1, 1, 2, 0))
	l.ticksTo(t, "nothing is owed again")
}

// ticksTo is a tick in which the ends send these packets, which are brought then.
func (l *link) ticksTo(t *testing.T, what string, want ...impl.Packet) {
	t.Helper()
	l.tick()
	if !slices.Equal(l.flight, want) {
		t.Fatalf("%s: %+v, not %+v", what, l.flight, want)
	}
	l.bringAll()
}

// Lives run up to the last one, and stay there.
func TestAllLives(t *testing.T) {
	e := impl.NewEnd(2)
	other := impl.NewEnd(1)
	for life := 1; life <= 1000; life++ {
		if e.Life != life || !impl.ValidEnd(e) {
			t.Fatalf("life %d: %+v", life, e)
		}
		other = impl.EndTake(other, impl.Packet{Kind: impl.PackWord, From: 2, Mine: life, Yours: 1}).End
		if other.Peer != life || !impl.ValidEnd(other) {
			t.Fatalf("life %d: %+v", life, other)
		}
		e = impl.EndRise(impl.EndFall(e))
	}
	if !equalEnds(e, impl.End{Number: 2, Life: 1000}) {
		t.Errorf("behind the last life: %+v", e)
	}
}
