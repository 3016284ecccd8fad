package tests

import (
	"math/rand"
	"testing"

	"loop.example/kilnwind/impl"
)

func TestEndLimits(t *testing.T) {
	if impl.BeatTicks != 6 || impl.MaxTime != 1000000 {
		t.Error("the limits are not those of the document")
	}
}

func TestNewEnds(t *testing.T) {
	for _, number := range []int{1, 2} {
		e := impl.NewEnd(number)
		if !equalEnds(e, impl.End{Number: number, Up: true, Life: 1}) || !impl.ValidEnd(e) {
			t.Errorf("NewEnd(%d) = %+v", number, e)
		}
	}
	for _, number := range []int{0, 3, -1, -2, 257, 258, 1<<32 + 1, -1 << 63, 1<<63 - 1} {
		if e := impl.NewEnd(number); !isNoEnd(e) {
			t.Errorf("NewEnd(%d) = %+v", number, e)
		}
	}
}

func TestValidEnds(t *testing.T) {
	full := impl.Send{Base: 999940, Items: unsent(60)}
	taken := impl.Take{Next: 1000000, Open: letters(200), Ready: fourReady()}
	good := map[string]impl.End{
		"Life 1":                        {Number: 1, Up: true, Life: 1},
		"Life 1000":                     {Number: 2, Up: true, Life: 1000},
		"not Up, Life 1":                {Number: 1, Life: 1},
		"not Up, Life 1000":             {Number: 2, Life: 1000},
		"not Up, empty lists":           {Number: 2, Life: 7, Send: impl.Send{Items: []impl.Item{}}, Take: impl.Take{Held: []impl.Held{}, Ready: []string{}}},
		"no Peer, empty lists":          {Number: 2, Up: true, Life: 7, Send: impl.Send{Items: []impl.Item{}}, Take: impl.Take{Held: []impl.Held{}, Ready: []string{}}},
		"no Peer, Owes":                 {Number: 1, Up: true, Life: 4, Owes: true},
		"no Peer, Since 1000000":        {Number: 1, Up: true, Life: 4, Since: 1000000},
		"Peer 1":                        {Number: 1, Up: true, Life: 1, Peer: 1},
		"Peer 1000":                     {Number: 1, Up: true, Life: 1, Peer: 1000, Since: 5, Owes: true},
		"Since 1000000":                 {Number: 2, Up: true, Life: 1, Peer: 9, Since: 1000000},
		"Send and Take at their bounds": {Number: 2, Up: true, Life: 1, Peer: 9, Send: full, Take: taken},
	}
	for what, e := range good {
		if !impl.ValidEnd(e) {
			t.Errorf("%s: refused", what)
		}
	}
}

// An end that is not valid is told, and has one answer at each function.
func TestWrongEnds(t *testing.T) {
	for what, e := range wrongEnds() {
		if wantValidEnd(e) || impl.ValidEnd(e) {
			t.Errorf("%s: valid", what)
		}
		refused := impl.Acted{Code: 1}
		wantActed(t, what+": EndTick", impl.EndTick(e), refused)
		wantActed(t, what+": EndPull", impl.EndPull(e), refused)
		for _, message := range []string{"", "m", letters(200), letters(201)} {
			wantActed(t, what+": EndPush", impl.EndPush(e, message), refused)
		}
		for _, p := range append(samplePackets(), impl.Packet{}, impl.Packet{Kind: 1, From: 2, Mine: 1000, Yours: e.Life}) {
			wantActed(t, what+": EndTake", impl.EndTake(e, p), refused)
		}
		if after := impl.EndFall(e); !isNoEnd(after) {
			t.Errorf("%s: EndFall = %+v", what, after)
		}
		if after := impl.EndRise(e); !isNoEnd(after) {
			t.Errorf("%s: EndRise = %+v", what, after)
		}
	}
}

func TestValidOfAnyEnd(t *testing.T) {
	source := rand.New(rand.NewSource(21))
	good, bad := 0, 0
	for range 20000 {
		e := someEnd(source)
		switch source.Intn(12) {
		case 0:
			e.Up = !e.Up
		case 1:
			e.Peer = []int{-1, 0, 1, 1001}[source.Intn(4)]
		case 2:
			e.Life += source.Intn(3) - 1
		case 3:
			e.Since += source.Intn(3) - 1
		case 4:
			e.Send = someSend(source)
		case 5:
			e.Take = someTake(source)
		case 6:
			e.Number += source.Intn(3) - 1
		}
		want := wantValidEnd(e)
		if impl.ValidEnd(e) != want {
			t.Fatalf("ValidEnd(%+v) = %v", e, !want)
		}
		if want {
			good++
		} else {
			bad++
		}
	}
	if good < 1000 || bad < 1000 {
		t.Errorf("%d good, %d bad: the test tells too little", good, bad)
	}
}

func TestFall(t *testing.T) {
	source := rand.New(rand.NewSource(22))
	for range 2000 {
		e := someEnd(source)
		fallen := impl.EndFall(e)
		if !equalEnds(fallen, impl.End{Number: e.Number, Life: e.Life}) || !impl.ValidEnd(fallen) {
			t.Fatalf("EndFall(%+v) = %+v", e, fallen)
		}
		if again := impl.EndFall(fallen); !equalEnds(again, fallen) {
			t.Fatalf("%+v fell again: %+v", fallen, again)
		}
	}
}

func TestRise(t *testing.T) {
	for number := 1; number <= 2; number++ {
		for life := 1; life <= 1000; life++ {
			down := impl.End{Number: number, Life: life}
			want := impl.End{Number: number, Up: true, Life: life + 1}
			if life == 1000 {
				want = down
			}
			if risen := impl.EndRise(down); !equalEnds(risen, want) || !impl.ValidEnd(risen) {
				t.Errorf("EndRise(%+v) = %+v", down, risen)
			}
		}
	}
}

func TestRiseOfOneThatIsUp(t *testing.T) {
	source := rand.New(rand.NewSource(23))
	for range 2000 {
		if e := someEnd(source); e.Up {
			if after := impl.EndRise(e); !equalEnds(after, e) {
				t.Fatalf("EndRise(%+v) = %+v", e, after)
			}
		}
	}
}

func TestEndsLeaveTheirArgument(t *testing.T) {
	source := rand.New(rand.NewSource(24))
	for range 400 {
		e := someEnd(source)
		message := letters(source.Intn(202))
		p := somePacket(source, e)
		leavesEnd(t, "EndTick", e, "", impl.EndTick)
		leavesEnd(t, "EndPull", e, "", impl.EndPull)
		leavesEnd(t, "EndPush", e, message, func(e impl.End) impl.Acted { return impl.EndPush(e, message) })
		leavesEnd(t, "EndTake", e, p.Part, func(e impl.End) impl.Acted { return impl.EndTake(e, p) })
		leavesEnd(t, "EndFall", e, "", func(e impl.End) impl.Acted { return impl.Acted{End: impl.EndFall(e)} })
		leavesEnd(t, "EndRise", e, "", func(e impl.End) impl.Acted { return impl.Acted{End: impl.EndRise(e)} })
		leavesEnd(t, "ValidEnd", e, "", func(e impl.End) impl.Acted { impl.ValidEnd(e); return impl.Acted{} })
	}
	for what, e := range wrongEnds() {
		leavesEnd(t, what, e, "", impl.EndTick)
		leavesEnd(t, what, e, "", impl.EndPull)
		leavesEnd(t, what, e, "m", func(e impl.End) impl.Acted { return impl.EndPush(e, "m") })
	}
}
