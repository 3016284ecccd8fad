package tests

import (
	"math/rand"
	"slices"
	"testing"

	"loop.example/kilnwind/impl"
)

// A word goes out when Since, counted with this tick, is BeatTicks, or is more.
func TestBeat(t *testing.T) {
	for _, peer := range []int{0, 1, 1000} {
		for _, since := range []int{0, 1, 4, 5, 6, 7, 999998, 999999, 1000000} {
			e := impl.End{Number: 2, Up: true, Life: 7, Peer: peer, Since: since}
			want := impl.Acted{End: e}
			if since >= 5 {
				want.End.Since = 0
				want.Out = []impl.Packet{{Kind: impl.PackWord, From: 2, Mine: 7, Yours: peer}}
			} else {
				want.End.Since = since + 1
			}
			wantActed(t, "EndTick", impl.EndTick(e), want)
		}
	}
}

func TestOwedWordGoesAtOnce(t *testing.T) {
	for _, since := range []int{0, 1, 4, 5, 6, 1000000} {
		e := impl.End{Number: 1, Up: true, Life: 1000, Peer: 1, Since: since, Owes: true, Take: impl.Take{Next: 12, Held: heldAt(13, 15, 19)}}
		want := impl.Acted{End: e, Out: []impl.Packet{{Kind: impl.PackWord, From: 1, Mine: 1000, Yours: 1, Next: 12, Mask: 2 + 8 + 128}}}
		want.End.Since, want.End.Owes = 0, false
		wantActed(t, "EndTick", impl.EndTick(e), want)
		again := want
		again.Out = nil
		again.End.Since = 1
		wantActed(t, "EndTick behind it", impl.EndTick(want.End), again)
	}
}

func TestOwedWordWithNoPeer(t *testing.T) {
	e := impl.End{Number: 1, Up: true, Life: 3, Owes: true}
	want := impl.Acted{End: impl.End{Number: 1, Up: true, Life: 3}, Out: []impl.Packet{{Kind: impl.PackWord, From: 1, Mine: 3}}}
	wantActed(t, "EndTick", impl.EndTick(e), want)
}

// The data of a tick goes out in the order of the numbers, and the word behind it.
func TestOrderOfATick(t *testing.T) {
	parts := []impl.Part{{Text: "zero"}, {Text: "one", Last: true}, {}, {Text: letters(20), Last: true}, {Text: "four"}}
	sinces := []int{3, 2, -1, 3, 3}
	e := impl.End{Number: 2, Up: true, Life: 5, Peer: 6, Owes: true}
	e.Send.Base = 40
	for i, part := range parts {
		e.Send.Items = append(e.Send.Items, impl.Item{Part: part, Since: sinces[i], Has: i == 4})
	}
	e.Take = impl.Take{Next: 9, Held: heldAt(10)}
	want := []impl.Packet{
		{Kind: impl.PackData, From: 2, Mine: 5, Yours: 6, Seq: 40, Part: "zero"},
		{Kind: impl.PackData, From: 2, Mine: 5, Yours: 6, Seq: 42},
		{Kind: impl.PackData, From: 2, Mine: 5, Yours: 6, Seq: 43, Last: true, Part: letters(20)},
		{Kind: impl.PackWord, From: 2, Mine: 5, Yours: 6, Next: 9, Mask: 2},
	}
	a := impl.EndTick(e)
	if a.Code != 0 || a.Text != "" || !slices.Equal(a.Out, want) {
		t.Errorf("%+v, not %+v", a.Out, want)
	}
	for i, since := range []int{0, 3, 0, 0, 3} {
		if a.End.Send.Items[i].Since != since {
			t.Errorf("item %d: %+v", i, a.End.Send.Items[i])
		}
	}
	if !equalTakes(a.End.Take, e.Take) || a.End.Since != 0 || a.End.Owes {
		t.Errorf("%+v", a.End)
	}
}

func TestTickAtTheLastNumbers(t *testing.T) {
	e := impl.End{Number: 1, Up: true, Life: 1, Peer: 1, Owes: true, Send: impl.Send{Base: 999940, Items: unsent(60)}, Take: impl.Take{Next: 1000000}}
	a := impl.EndTick(e)
	if len(a.Out) != 9 || a.Out[7].Seq != 999947 || a.Out[8].Next != 1000000 {
		t.Errorf("%+v", a.Out)
	}
	e.Send = impl.Send{Base: 999999, Items: unsent(1)}
	a = impl.EndTick(e)
	if len(a.Out) != 2 || a.Out[0].Seq != 999999 || !isPacket(a.Out[0]) {
		t.Errorf("%+v", a.Out)
	}
}

func TestTickOfOneThatIsNotUp(t *testing.T) {
	for _, life := range []int{1, 2, 999, 1000} {
		e := impl.End{Number: 1, Life: life}
		for range 10 {
			a := impl.EndTick(e)
			wantActed(t, "EndTick", a, impl.Acted{End: e})
			e = a.End
		}
	}
}

func TestTickOfAnyEnd(t *testing.T) {
	source := rand.New(rand.NewSource(25))
	for range 5000 {
		e := someEnd(source)
		wantActed(t, "EndTick", impl.EndTick(e), wantBeat(e))
	}
}

// An end to which nothing comes sends a word at every sixth tick, and its data at every fourth, from the first on.
func TestTicksAlone(t *testing.T) {
	e := impl.End{Number: 1, Up: true, Life: 2, Peer: 3, Send: impl.Send{Items: unsent(9)}}
	for tick := 1; tick <= 60; tick++ {
		a := impl.EndTick(e)
		data := 0
		if tick%4 == 1 {
			data = 8
		}
		words := 0
		if tick%6 == 0 {
			words = 1
		}
		if len(a.Out) != data+words || words == 1 && a.Out[data].Kind != impl.PackWord {
			t.Errorf("tick %d: %+v", tick, a.Out)
		}
		e = a.End
	}
}
