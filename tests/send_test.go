package tests

import (
	"math/rand"
	"slices"
	"testing"

	"loop.example/kilnwind/impl"
)

func TestSendLimits(t *testing.T) {
	if impl.Window != 8 || impl.MaxItems != 60 || impl.ResendTicks != 4 {
		t.Error("the limits are not those of the document")
	}
}

func TestValidSends(t *testing.T) {
	full := unsent(60)
	for i := range 8 {
		full[i] = impl.Item{Part: impl.Part{Text: letters(20)}, Since: i % 4, Has: i > 4}
	}
	gap := unsent(3)
	gap[1].Since, gap[2].Since, gap[2].Has = 0, 3, true
	good := map[string]impl.Send{
		"nothing":                        {},
		"an empty list":                  {Items: []impl.Item{}},
		"Base 1000000":                   {Base: 1000000},
		"Base 999999 and an Item":        {Base: 999999, Items: unsent(1)},
		"Base 999940 and 60 Items":       {Base: 999940, Items: unsent(60)},
		"60 Items":                       {Items: full},
		"sent ones behind a new one":     {Base: 5, Items: gap},
		"Since 0 at place 7":             {Items: full[:8]},
		"a Part of 20 bytes never sent":  {Items: []impl.Item{{Part: impl.Part{Text: letters(20)}, Since: -1}}},
		"an empty Part that is the last": {Items: []impl.Item{{Part: impl.Part{Last: true}, Since: 3, Has: true}}},
	}
	for since := -1; since <= 3; since++ {
		s := impl.Send{Items: []impl.Item{{Since: since}}}
		if !impl.ValidSend(s) {
			t.Errorf("Since %d is refused", since)
		}
		s.Items[0].Has = true
		if impl.ValidSend(s) != (since >= 0) {
			t.Errorf("Has with Since %d: %v", since, since < 0)
		}
	}
	for what, s := range good {
		if !impl.ValidSend(s) {
			t.Errorf("%s: refused", what)
		}
	}
}

// A Send that is not valid is told, and has one answer at each function.
func TestWrongSends(t *testing.T) {
	for what, s := range wrongSends() {
		if impl.ValidSend(s) {
			t.Errorf("%s: valid", what)
		}
		for _, message := range []string{"", "m", letters(200), letters(201)} {
			if after, code := impl.SendPush(s, message); code != 1 || !isNoSend(after) {
				t.Errorf("%s: SendPush = %+v, %d", what, after, code)
			}
		}
		if after, sent := impl.SendTick(s); !isNoSend(after) || len(sent) != 0 {
			t.Errorf("%s: SendTick = %+v, %v", what, after, sent)
		}
		for _, next := range []int{s.Base, s.Base - 1, s.Base + 1, 0, -1} {
			for _, mask := range []int{0, 255, -1, 256} {
				if after := impl.SendWord(s, next, mask); !isNoSend(after) {
					t.Errorf("%s: SendWord = %+v", what, after)
				}
			}
		}
	}
}

func TestValidOfAnySend(t *testing.T) {
	source := rand.New(rand.NewSource(3))
	good, bad := 0, 0
	for range 20000 {
		s := someSend(source)
		if source.Intn(2) == 0 && len(s.Items) > 0 {
			item := &s.Items[source.Intn(len(s.Items))]
			item.Since = source.Intn(7) - 2
			item.Has = source.Intn(2) == 0
			item.Part.Text = letters(source.Intn(2) * (19 + source.Intn(3)))
		}
		s.Base += source.Intn(3) - 1
		want := wantValid(s)
		if impl.ValidSend(s) != want {
			t.Fatalf("ValidSend(%+v) = %v", s, !want)
		}
		if want {
			good++
		} else {
			bad++
		}
	}
	if good < 1000 || bad < 1000 {
		t.Errorf("%d good, %d bad: the test tells too little", good, bad)
	}
}

func TestSendsLeaveTheirArgument(t *testing.T) {
	source := rand.New(rand.NewSource(4))
	for range 300 {
		s := someSend(source)
		message := letters(source.Intn(200))
		next, mask := s.Base+source.Intn(10)-1, source.Intn(258)-1
		leaves(t, "SendPush", s, func(s impl.Send) impl.Send {
			after, _ := impl.SendPush(s, message)
			for _, item := range after.Items {
				newText(t, "SendPush", item.Part.Text, message)
			}
			return after
		})
		leaves(t, "SendTick", s, func(s impl.Send) impl.Send {
			after, sent := impl.SendTick(s)
			overwrite(sent, 98)
			return after
		})
		leaves(t, "SendWord", s, func(s impl.Send) impl.Send { return impl.SendWord(s, next, mask) })
		leaves(t, "ValidSend", s, func(s impl.Send) impl.Send { impl.ValidSend(s); return impl.Send{} })
	}
	for what, s := range wrongSends() {
		leaves(t, what, s, func(s impl.Send) impl.Send { after, _ := impl.SendPush(s, "m"); return after })
		leaves(t, what, s, func(s impl.Send) impl.Send { after, _ := impl.SendTick(s); return after })
		leaves(t, what, s, func(s impl.Send) impl.Send { return impl.SendWord(s, s.Base, 255) })
	}
}

// P3: a valid Send stays valid, and does at each step what the document asks.
func TestSendsStayValid(t *testing.T) {
	source := rand.New(rand.NewSource(5))
	pushed, sentAll, moved := 0, 0, 0
	for range 400 {
		s := someSend(source)
		for range 60 {
			var after, want impl.Send
			switch source.Intn(4) {
			case 0:
				message := letters([]int{0, 1, 20, 21, 100, 200}[source.Intn(6)])
				var code int
				after, code = impl.SendPush(s, message)
				want = s
				want.Items = append(slices.Clone(s.Items), wantItems(message)...)
				if !wantValid(want) {
					if code != 3 || !isNoSend(after) {
						t.Fatalf("SendPush(%+v) = %+v, %d, not code 3", s, after, code)
					}
					continue
				}
				if code != 0 {
					t.Fatalf("SendPush(%+v) has code %d", s, code)
				}
				pushed++
			case 1:
				next, mask := s.Base+source.Intn(10)-1, source.Intn(260)-2
				after, want = impl.SendWord(s, next, mask), wantWord(s, next, mask)
				moved += want.Base - s.Base
			default:
				var sent, wantSent []int
				after, sent = impl.SendTick(s)
				want, wantSent = wantTick(s)
				if !slices.Equal(sent, wantSent) {
					t.Fatalf("SendTick(%+v) sends %v, not %v", s, sent, wantSent)
				}
				sentAll += len(sent)
			}
			if !equalSends(after, want) {
				t.Fatalf("%+v became %+v, not %+v", s, after, want)
			}
			if !impl.ValidSend(after) || !wantValid(after) {
				t.Fatalf("%+v became %+v, which is not valid", s, after)
			}
			s = after
		}
	}
	if pushed < 500 || sentAll < 1000 || moved < 1000 {
		t.Errorf("%d pushed, %d sent, %d gone: the test tells too little", pushed, sentAll, moved)
	}
}

// wantItems are the items of a message that was never sent.
func wantItems(message string) []impl.Item {
	var items []impl.Item
	for len(message) > 20 {
		items = append(items, impl.Item{Part: impl.Part{Text: message[:20]}, Since: -1})
		message = message[20:]
	}
	return append(items, impl.Item{Part: impl.Part{Text: message, Last: true}, Since: -1})
}
