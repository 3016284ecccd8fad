package tests

import (
	"math/rand"
	"slices"
	"testing"

	"loop.example/kilnwind/impl"
)

// The helpers here follow chapter 6 by means of the models of chapters 4 and 5, which are lists alone.

func equalEnds(a, b impl.End) bool {
	same := a.Number == b.Number && a.Up == b.Up && a.Life == b.Life && a.Peer == b.Peer && a.Since == b.Since && a.Owes == b.Owes
	return same && equalSends(a.Send, b.Send) && equalTakes(a.Take, b.Take)
}

func equalActed(a, b impl.Acted) bool {
	return a.Code == b.Code && a.Text == b.Text && equalEnds(a.End, b.End) && slices.Equal(a.Out, b.Out)
}

func isNoEnd(e impl.End) bool {
	return equalEnds(e, impl.End{})
}

// isPacket says whether a packet is valid: it is, if nothing of it is lost in its body.
func isPacket(p impl.Packet) bool {
	read, ok := wantRead(wantBody(p))
	return ok && read == p
}

// wantValidEnd is ValidEnd.
func wantValidEnd(e impl.End) bool {
	if e.Number != 1 && e.Number != 2 || e.Life < 1 || e.Life > 1000 || e.Peer < 0 || e.Peer > 1000 || e.Since < 0 || e.Since > 1000000 {
		return false
	}
	if !wantValid(e.Send) || !wantValidTake(e.Take) || e.Peer == 0 && !(isNoSend(e.Send) && isNoTake(e.Take)) {
		return false
	}
	return e.Up || equalEnds(e, impl.End{Number: e.Number, Life: e.Life})
}

// wantBeat is EndTick of a valid end.
func wantBeat(e impl.End) impl.Acted {
	if !e.Up {
		return impl.Acted{End: e}
	}
	var out []impl.Packet
	if e.Since < 1000000 {
		e.Since++
	}
	if e.Peer != 0 {
		send, sent := wantTick(e.Send)
		for _, seq := range sent {
			part := e.Send.Items[seq-e.Send.Base].Part
			out = append(out, impl.Packet{Kind: 2, From: e.Number, Mine: e.Life, Yours: e.Peer, Seq: seq, Last: part.Last, Part: part.Text})
		}
		e.Send = send
	}
	if e.Owes || e.Since >= 6 {
		next, mask := wantTold(e.Take)
		out = append(out, impl.Packet{Kind: 1, From: e.Number, Mine: e.Life, Yours: e.Peer, Next: next, Mask: mask})
		e.Since, e.Owes = 0, false
	}
	return impl.Acted{End: e, Out: out}
}

// wantReceived is EndTake of a valid end.
func wantReceived(e impl.End, p impl.Packet) impl.Acted {
	if !e.Up || !isPacket(p) || p.From == e.Number || p.Mine < e.Peer {
		return impl.Acted{End: e}
	}
	if p.Mine > e.Peer {
		e = impl.End{Number: e.Number, Up: true, Life: e.Life, Peer: p.Mine, Since: e.Since, Owes: true}
	}
	switch {
	case p.Yours != e.Life:
		e.Owes = true
	case p.Kind == 1:
		e.Send = wantWord(e.Send, p.Next, p.Mask)
	default:
		e.Take = wantPart(e.Take, p.Seq, impl.Part{Text: p.Part, Last: p.Last})
		e.Owes = true
	}
	return impl.Acted{End: e}
}

// wantGiven is EndPush of a valid end.
func wantGiven(e impl.End, message string) impl.Acted {
	if !e.Up || e.Peer == 0 {
		return impl.Acted{Code: 2}
	}
	if len(message) > 200 {
		return impl.Acted{Code: 1}
	}
	e.Send.Items = append(slices.Clone(e.Send.Items), wantItems(message)...)
	if !wantValid(e.Send) {
		return impl.Acted{Code: 3}
	}
	return impl.Acted{End: e}
}

// wantTaken is EndPull of a valid end.
func wantTaken(e impl.End) impl.Acted {
	if !e.Up {
		return impl.Acted{Code: 2}
	}
	take, message, ok := wantPull(e.Take)
	if !ok {
		return impl.Acted{Code: 4}
	}
	e.Take, e.Owes = take, true
	return impl.Acted{End: e, Text: message}
}

func wantActed(t *testing.T, what string, got, want impl.Acted) {
	t.Helper()
	if !equalActed(got, want) {
		t.Fatalf("%s: %+v, not %+v", what, got, want)
	}
}

// staysAt fails unless a packet changes nothing.
func staysAt(t *testing.T, what string, e impl.End, p impl.Packet) {
	t.Helper()
	wantActed(t, what, impl.EndTake(e, p), impl.Acted{End: e})
}

// someEnd is a valid end in any state.
func someEnd(source *rand.Rand) impl.End {
	lives := []int{1, 2, 3, 500, 999, 1000}
	e := impl.End{Number: 1 + source.Intn(2), Life: lives[source.Intn(len(lives))]}
	if source.Intn(10) == 0 {
		return e
	}
	peers := []int{0, 1, 2, 500, 999, 1000}
	times := []int{0, 1, 3, 4, 5, 6, 7, 12345, 999999, 1000000}
	e.Up = true
	e.Peer = peers[source.Intn(len(peers))]
	e.Since = times[source.Intn(len(times))]
	e.Owes = source.Intn(2) == 0
	if e.Peer != 0 {
		e.Send = someSend(source)
		e.Take = someTake(source)
	}
	return e
}

// somePacket is a packet that may come to an end: of lives around those that it knows, with numbers around its own.
func somePacket(source *rand.Rand, e impl.End) impl.Packet {
	p := impl.Packet{Kind: 1 + source.Intn(2), From: 3 - e.Number, Mine: max(e.Peer, 1), Yours: e.Life}
	if source.Intn(3) == 0 {
		p.Mine = e.Peer + source.Intn(4) - 1
	}
	if source.Intn(4) == 0 {
		p.Yours = []int{0, 1, e.Life - 1, e.Life + 1}[source.Intn(4)]
	}
	if p.Kind == 1 {
		p.Next, p.Mask = e.Send.Base+source.Intn(11)-1, source.Intn(256)
	} else {
		part := somePart(source)
		p.Seq, p.Last, p.Part = e.Take.Next+source.Intn(11)-1, part.Last, part.Text
	}
	if source.Intn(12) == 0 {
		p = spoilt(source, p)
	}
	return p
}

// spoilt is a packet of which one field is another.
func spoilt(source *rand.Rand, p impl.Packet) impl.Packet {
	switch source.Intn(8) {
	case 0:
		p.Kind = source.Intn(4)
	case 1:
		p.From = source.Intn(4)
	case 2:
		p.Mine = []int{-1, 0, 1001}[source.Intn(3)]
	case 3:
		p.Yours = []int{-1, 1001}[source.Intn(2)]
	case 4:
		p.Next = []int{-1, 1, 1000001}[source.Intn(3)]
	case 5:
		p.Mask = []int{-1, 1, 256}[source.Intn(3)]
	case 6:
		p.Seq = []int{-1, 1, 1000000}[source.Intn(3)]
	default:
		p.Part = letters(21)
	}
	return p
}

// wrongEnds are ends that are not valid, by the reason for it.
func wrongEnds() map[string]impl.End {
	up := func(change func(*impl.End)) impl.End {
		e := impl.End{Number: 1, Up: true, Life: 3, Peer: 2}
		change(&e)
		return e
	}
	down := func(change func(*impl.End)) impl.End {
		e := impl.End{Number: 2, Life: 3}
		change(&e)
		return e
	}
	item := []impl.Item{{Since: -1}}
	wrong := map[string]impl.End{
		"nothing":                           {},
		"nothing but Up":                    {Up: true},
		"Number 0":                          up(func(e *impl.End) { e.Number = 0 }),
		"Number 3":                          up(func(e *impl.End) { e.Number = 3 }),
		"Number -1":                         up(func(e *impl.End) { e.Number = -1 }),
		"Number 257":                        up(func(e *impl.End) { e.Number = 257 }),
		"Life 0":                            up(func(e *impl.End) { e.Life = 0 }),
		"Life -1":                           up(func(e *impl.End) { e.Life = -1 }),
		"Life 1001":                         up(func(e *impl.End) { e.Life = 1001 }),
		"the greatest Life":                 up(func(e *impl.End) { e.Life = 1<<63 - 1 }),
		"Peer -1":                           up(func(e *impl.End) { e.Peer = -1 }),
		"Peer 1001":                         up(func(e *impl.End) { e.Peer = 1001 }),
		"the least Peer":                    up(func(e *impl.End) { e.Peer = -1 << 63 }),
		"Since -1":                          up(func(e *impl.End) { e.Since = -1 }),
		"Since 1000001":                     up(func(e *impl.End) { e.Since = 1000001 }),
		"the greatest Since":                up(func(e *impl.End) { e.Since = 1<<63 - 1 }),
		"Since -1 with no Peer":             up(func(e *impl.End) { e.Peer, e.Since = 0, -1 }),
		"no Peer and a Base":                up(func(e *impl.End) { e.Peer, e.Send.Base = 0, 1 }),
		"no Peer and an Item":               up(func(e *impl.End) { e.Peer, e.Send.Items = 0, item }),
		"no Peer and a Next":                up(func(e *impl.End) { e.Peer, e.Take.Next = 0, 1 }),
		"no Peer and a Held":                up(func(e *impl.End) { e.Peer, e.Take.Held = 0, heldAt(1) }),
		"no Peer and an Open":               up(func(e *impl.End) { e.Peer, e.Take.Open = 0, "o" }),
		"no Peer and an empty Ready":        up(func(e *impl.End) { e.Peer, e.Take.Ready = 0, []string{""} }),
		"not Up, Number 0":                  down(func(e *impl.End) { e.Number = 0 }),
		"not Up, Number 3":                  down(func(e *impl.End) { e.Number = 3 }),
		"not Up, Life 0":                    down(func(e *impl.End) { e.Life = 0 }),
		"not Up, Life 1001":                 down(func(e *impl.End) { e.Life = 1001 }),
		"not Up, a Peer":                    down(func(e *impl.End) { e.Peer = 1 }),
		"not Up, a Since":                   down(func(e *impl.End) { e.Since = 1 }),
		"not Up, Owes":                      down(func(e *impl.End) { e.Owes = true }),
		"not Up, a Base":                    down(func(e *impl.End) { e.Send.Base = 1 }),
		"not Up, an Item":                   down(func(e *impl.End) { e.Send.Items = item }),
		"not Up, a Next":                    down(func(e *impl.End) { e.Take.Next = 1 }),
		"not Up, a Held":                    down(func(e *impl.End) { e.Take.Held = heldAt(1) }),
		"not Up, an Open":                   down(func(e *impl.End) { e.Take.Open = "o" }),
		"not Up, an empty Ready":            down(func(e *impl.End) { e.Take.Ready = []string{""} }),
		"not Up, a Peer and what it allows": down(func(e *impl.End) { e.Peer, e.Send.Items, e.Take.Next = 1, item, 1 }),
	}
	for what, s := range wrongSends() {
		wrong["Send: "+what] = up(func(e *impl.End) { e.Send = s })
		wrong["no Peer, Send: "+what] = up(func(e *impl.End) { e.Peer, e.Send = 0, s })
	}
	for what, take := range wrongTakes() {
		wrong["Take: "+what] = up(func(e *impl.End) { e.Take = take })
		wrong["not Up, Take: "+what] = down(func(e *impl.End) { e.Take = take })
	}
	return wrong
}

// textLists are the texts of an answer, list by list.
func textLists(a impl.Acted) map[string][]string {
	lists := map[string][]string{"Text": {a.Text}, "Open": {a.End.Take.Open}, "Ready": a.End.Take.Ready}
	for _, p := range a.Out {
		lists["Out"] = append(lists["Out"], p.Part)
	}
	for _, item := range a.End.Send.Items {
		lists["Items"] = append(lists["Items"], item.Part.Text)
	}
	for _, held := range a.End.Take.Held {
		lists["Held"] = append(lists["Held"], held.Part.Text)
	}
	return lists
}

// apart fails if two lists of one answer, or their texts, lie in the same memory.
func apart(t *testing.T, what string, a impl.Acted) {
	t.Helper()
	lists := textLists(a)
	for name, texts := range lists {
		for other, others := range lists {
			if name == other {
				continue
			}
			for _, text := range texts {
				if slices.ContainsFunc(others, func(old string) bool { return liesIn(text, old) }) {
					t.Errorf("%s: a text of %s lies in %s", what, name, other)
				}
			}
		}
	}
}

// leavesEnd fails if what a call does, or what is done to its answer later, is to be seen in the end it was given, if a
// text of the answer lies in one of those that were given, or if two lists of the answer share memory.
func leavesEnd(t *testing.T, what string, e impl.End, given string, call func(impl.End) impl.Acted) {
	t.Helper()
	old := textLists(impl.Acted{End: e, Text: given})
	leaves(t, what, e.Send, func(s impl.Send) impl.Send {
		arg := e
		arg.Send = s
		return call(arg).End.Send
	})
	leavesTake(t, what, e.Take, []string{given}, func(take impl.Take) (impl.Take, string) {
		arg := e
		arg.Take = take
		after := call(arg)
		apart(t, what, after)
		for _, p := range after.Out {
			for _, texts := range old {
				for _, text := range texts {
					newText(t, what, p.Part, text)
				}
			}
		}
		for _, item := range after.End.Send.Items {
			newText(t, what, item.Part.Text, given)
		}
		overwrite(after.Out, impl.Packet{Kind: 98})
		return after.End.Take, after.Text
	})
}
