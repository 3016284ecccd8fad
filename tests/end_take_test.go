package tests

import (
	"math/rand"
	"testing"

	"loop.example/kilnwind/impl"
)

// talking is an end in a pair of lives, with something of everything.
func talking() impl.End {
	items := unsent(12)
	for i := range 8 {
		items[i].Since = i % 4
	}
	held := []impl.Held{{Seq: 21, Part: impl.Part{Text: "x"}}, {Seq: 23, Part: impl.Part{Text: "y", Last: true}}}
	take := impl.Take{Next: 20, Held: held, Open: "open", Ready: []string{"a", "b"}}
	return impl.End{Number: 1, Up: true, Life: 5, Peer: 6, Since: 3, Send: impl.Send{Base: 30, Items: items}, Take: take}
}

// fresh is what talking is when a pair of lives with this peer has just begun.
func fresh(peer int) impl.End {
	return impl.End{Number: 1, Up: true, Life: 5, Peer: peer, Since: 3, Owes: true}
}

func TestPacketsThatChangeNothing(t *testing.T) {
	word := impl.Packet{Kind: impl.PackWord, From: 2, Mine: 6, Yours: 5, Next: 31, Mask: 1}
	data := impl.Packet{Kind: impl.PackData, From: 2, Mine: 6, Yours: 5, Seq: 20, Last: true, Part: "p"}
	with := func(p impl.Packet, change func(*impl.Packet)) impl.Packet {
		change(&p)
		return p
	}
	both := map[string]func(*impl.Packet){
		"Kind 0":              func(p *impl.Packet) { p.Kind = 0 },
		"Kind 3":              func(p *impl.Packet) { p.Kind = 3 },
		"Kind -1":             func(p *impl.Packet) { p.Kind = -1 },
		"the other Kind":      func(p *impl.Packet) { p.Kind = 3 - p.Kind },
		"From 0":              func(p *impl.Packet) { p.From = 0 },
		"From 3":              func(p *impl.Packet) { p.From = 3 },
		"From its own Number": func(p *impl.Packet) { p.From = 1 },
		"From itself, Mine 7": func(p *impl.Packet) { p.From, p.Mine = 1, 7 },
		"Mine 0":              func(p *impl.Packet) { p.Mine = 0 },
		"Mine -1":             func(p *impl.Packet) { p.Mine = -1 },
		"Mine 1":              func(p *impl.Packet) { p.Mine = 1 },
		"Mine 5":              func(p *impl.Packet) { p.Mine = 5 },
		"Mine 5, Yours 4":     func(p *impl.Packet) { p.Mine, p.Yours = 5, 4 },
		"Mine 1001":           func(p *impl.Packet) { p.Mine = 1001 },
		"the greatest Mine":   func(p *impl.Packet) { p.Mine = 1<<63 - 1 },
		"Yours -1":            func(p *impl.Packet) { p.Yours = -1 },
		"Yours 1001":          func(p *impl.Packet) { p.Yours = 1001 },
		"Mine 7, Yours 1001":  func(p *impl.Packet) { p.Mine, p.Yours = 7, 1001 },
		"a Part of 21 bytes":  func(p *impl.Packet) { p.Part = letters(21) },
		"Seq -1":              func(p *impl.Packet) { p.Seq = -1 },
		"Seq 1000000":         func(p *impl.Packet) { p.Seq = 1000000 },
		"Next -1":             func(p *impl.Packet) { p.Next = -1 },
		"Next 1000001":        func(p *impl.Packet) { p.Next = 1000001 },
		"Mask -1":             func(p *impl.Packet) { p.Mask = -1 },
		"Mask 256":            func(p *impl.Packet) { p.Mask = 256 },
	}
	for what, change := range both {
		staysAt(t, what+" of a word", talking(), with(word, change))
		staysAt(t, what+" of data", talking(), with(data, change))
	}
	staysAt(t, "no packet", talking(), impl.Packet{})
	staysAt(t, "a word with a Seq", talking(), with(word, func(p *impl.Packet) { p.Seq = 1 }))
	staysAt(t, "a word with Last", talking(), with(word, func(p *impl.Packet) { p.Last = true }))
	staysAt(t, "a word with a Part", talking(), with(word, func(p *impl.Packet) { p.Part = "p" }))
	staysAt(t, "data with a Next", talking(), with(data, func(p *impl.Packet) { p.Next = 1 }))
	staysAt(t, "data with a Mask", talking(), with(data, func(p *impl.Packet) { p.Mask = 1 }))
}

func TestWordOfThisPair(t *testing.T) {
	e := talking()
	p := impl.Packet{Kind: impl.PackWord, From: 2, Mine: 6, Yours: 5}
	for next := 28; next <= 40; next++ {
		for _, mask := range []int{0, 1, 4, 128, 255} {
			p.Next, p.Mask = next, mask
			want := talking()
			want.Send = wantWord(e.Send, next, mask)
			wantActed(t, "a word", impl.EndTake(e, p), impl.Acted{End: want})
		}
	}
	p.Next, p.Mask = 32, 2
	after := impl.EndTake(e, p).End
	if after.Send.Base != 32 || len(after.Send.Items) != 10 || after.Send.Items[0].Has || !after.Send.Items[1].Has || after.Owes {
		t.Errorf("%+v", after)
	}
}

// A word that was owed stays owed: what comes is no word of this end's.
func TestWordLeavesWhatIsOwed(t *testing.T) {
	e := talking()
	e.Owes = true
	after := impl.EndTake(e, impl.Packet{Kind: impl.PackWord, From: 2, Mine: 6, Yours: 5, Next: 38}).End
	if !after.Owes || after.Send.Base != 38 || after.Since != 3 {
		t.Errorf("%+v", after)
	}
}

// Data of this pair is taken, and a word is owed for it, also where it was there already or can't be waited for.
func TestDataOfThisPair(t *testing.T) {
	e := talking()
	for seq := 18; seq <= 30; seq++ {
		for _, last := range []bool{false, true} {
			p := impl.Packet{Kind: impl.PackData, From: 2, Mine: 6, Yours: 5, Seq: seq, Last: last, Part: "part"}
			want := talking()
			want.Owes = true
			want.Take = wantPart(e.Take, seq, impl.Part{Text: "part", Last: last})
			wantActed(t, "data", impl.EndTake(e, p), impl.Acted{End: want})
		}
	}
	after := impl.EndTake(e, impl.Packet{Kind: impl.PackData, From: 2, Mine: 6, Yours: 5, Seq: 20, Last: true, Part: "!"}).End
	want := impl.Take{Next: 22, Held: e.Take.Held[1:], Open: "x", Ready: []string{"a", "b", "open!"}}
	if !equalTakes(after.Take, want) || !after.Owes {
		t.Errorf("%+v", after)
	}
}

// Data waits while as many messages are Ready as may be.
func TestDataWithFourReady(t *testing.T) {
	e := talking()
	e.Take = impl.Take{Next: 20, Ready: fourReady()}
	p := impl.Packet{Kind: impl.PackData, From: 2, Mine: 6, Yours: 5, Seq: 20, Last: true, Part: "waits"}
	a := impl.EndTake(e, p)
	want := e
	want.Owes = true
	want.Take.Held = []impl.Held{{Seq: 20, Part: impl.Part{Text: "waits", Last: true}}}
	wantActed(t, "data that must wait", a, impl.Acted{End: want})
	pulled := impl.EndPull(a.End)
	want.Take = impl.Take{Next: 21, Ready: append(fourReady()[1:], "waits")}
	wantActed(t, "a pull", pulled, impl.Acted{End: want, Text: "one"})
	e.Take.Ready = e.Take.Ready[1:]
	if a := impl.EndTake(e, p); len(a.End.Take.Ready) != 4 || a.End.Take.Next != 21 {
		t.Errorf("%+v", a.End.Take)
	}
}

// A packet to another life of this end brings nothing, but a word is owed.
func TestPacketToAnotherLife(t *testing.T) {
	want := talking()
	want.Owes = true
	for _, yours := range []int{0, 1, 4, 6, 1000} {
		word := impl.Packet{Kind: impl.PackWord, From: 2, Mine: 6, Yours: yours, Next: 31, Mask: 1}
		data := impl.Packet{Kind: impl.PackData, From: 2, Mine: 6, Yours: yours, Seq: 20, Last: true, Part: "p"}
		wantActed(t, "a word to another life", impl.EndTake(talking(), word), impl.Acted{End: want})
		wantActed(t, "data to another life", impl.EndTake(talking(), data), impl.Acted{End: want})
	}
}

// A new pair of lives begins ahead of what its packet brings: what the pair before had is gone, what comes is there.
func TestNewPair(t *testing.T) {
	for _, mine := range []int{7, 8, 999, 1000} {
		for _, yours := range []int{0, 4, 5, 6, 1000} {
			word := impl.Packet{Kind: impl.PackWord, From: 2, Mine: mine, Yours: yours}
			for _, next := range []int{0, 1, 30, 31} {
				word.Next = next
				wantActed(t, "a word of a new life", impl.EndTake(talking(), word), impl.Acted{End: fresh(mine)})
			}
			for _, seq := range []int{0, 1, 7, 8, 20, 999999} {
				for _, last := range []bool{false, true} {
					data := impl.Packet{Kind: impl.PackData, From: 2, Mine: mine, Yours: yours, Seq: seq, Last: last, Part: "new"}
					want := fresh(mine)
					if yours == 5 {
						want.Take = wantPart(impl.Take{}, seq, impl.Part{Text: "new", Last: last})
					}
					wantActed(t, "data of a new life", impl.EndTake(talking(), data), impl.Acted{End: want})
				}
			}
		}
	}
	data := impl.Packet{Kind: impl.PackData, From: 2, Mine: 7, Yours: 5, Last: true, Part: "new"}
	if after := impl.EndTake(talking(), data).End; !equalTakes(after.Take, impl.Take{Next: 1, Ready: []string{"new"}}) || !isNoSend(after.Send) || !after.Owes {
		t.Errorf("%+v", after)
	}
}

// The first packet that comes begins the first pair, whatever life it is of.
func TestFirstPair(t *testing.T) {
	e := impl.End{Number: 2, Up: true, Life: 1000, Since: 1000000}
	for _, mine := range []int{1, 2, 1000} {
		want := e
		want.Peer, want.Owes = mine, true
		word := impl.Packet{Kind: impl.PackWord, From: 1, Mine: mine}
		wantActed(t, "a first word", impl.EndTake(e, word), impl.Acted{End: want})
		word.Yours = 1000
		wantActed(t, "a first word to this life", impl.EndTake(e, word), impl.Acted{End: want})
		data := impl.Packet{Kind: impl.PackData, From: 1, Mine: mine, Yours: 1000, Seq: 3, Part: "3"}
		want.Take.Held = []impl.Held{{Seq: 3, Part: impl.Part{Text: "3"}}}
		wantActed(t, "first data", impl.EndTake(e, data), impl.Acted{End: want})
	}
	e.Peer = 1000
	staysAt(t, "Mine 999 at Peer 1000", e, impl.Packet{Kind: impl.PackWord, From: 1, Mine: 999})
}

func TestTakeOfOneThatIsNotUp(t *testing.T) {
	for _, life := range []int{1, 2, 1000} {
		e := impl.End{Number: 1, Life: life}
		for _, p := range append(validPackets(), impl.Packet{}) {
			staysAt(t, "not Up", e, p)
			p.Yours = life
			staysAt(t, "not Up", e, p)
		}
	}
}

func TestTakeOfAnyPacket(t *testing.T) {
	source := rand.New(rand.NewSource(26))
	changed, began, owed := 0, 0, 0
	for range 30000 {
		e := someEnd(source)
		p := somePacket(source, e)
		want := wantReceived(e, p)
		wantActed(t, "EndTake", impl.EndTake(e, p), want)
		if !equalEnds(want.End, e) {
			changed++
		}
		if want.End.Peer != e.Peer {
			began++
		}
		if want.End.Owes && !e.Owes {
			owed++
		}
	}
	if changed < 5000 || began < 3000 || owed < 3000 {
		t.Errorf("%d changed, %d began, %d owed: the test tells too little", changed, began, owed)
	}
}
