package tests

import (
	"fmt"
	"math/rand"
	"slices"
	"testing"

	"loop.example/kilnwind/impl"
)

// ticks lets a Send tick, and fails unless it sends what is wanted.
func ticks(t *testing.T, s impl.Send, want ...int) impl.Send {
	t.Helper()
	after, sent := impl.SendTick(s)
	if !slices.Equal(sent, want) {
		t.Errorf("%+v sends %v, not %v", s, sent, want)
	}
	return after
}

func TestTickOfNothing(t *testing.T) {
	for _, base := range []int{0, 60, 1000000} {
		if s := ticks(t, impl.Send{Base: base}); s.Base != base || len(s.Items) != 0 {
			t.Errorf("%+v", s)
		}
	}
}

func TestTickOfOneItem(t *testing.T) {
	part := impl.Part{Text: "part", Last: true}
	for since := -1; since <= 3; since++ {
		s := impl.Send{Base: 999999, Items: []impl.Item{{Part: part, Since: since}}}
		var want []int
		wantSince := since + 1
		if since == -1 || since == 3 {
			want, wantSince = []int{999999}, 0
		}
		after := ticks(t, s, want...)
		if !equalSends(after, impl.Send{Base: 999999, Items: []impl.Item{{Part: part, Since: wantSince}}}) {
			t.Errorf("Since %d: %+v", since, after)
		}
		if since >= 0 {
			s.Items[0].Has = true
			if after := ticks(t, s); !equalSends(after, s) {
				t.Errorf("Has and Since %d: %+v", since, after)
			}
		}
	}
}

// P3: the first Window parts are sent at their first tick and every ResendTicks ticks, none behind them.
func TestTickWindow(t *testing.T) {
	for _, count := range []int{1, 7, 8, 9, 16, 60} {
		for _, base := range []int{0, 55, 999940} {
			s := impl.Send{Base: base, Items: unsent(count)}
			var numbers []int
			for i := range min(count, 8) {
				numbers = append(numbers, base+i)
			}
			for range 3 {
				s = ticks(t, s, numbers...)
				for place, item := range s.Items {
					if place < 8 && item.Since != 0 || place >= 8 && item.Since != -1 {
						t.Errorf("%d Items from %d: place %d has Since %d", count, base, place, item.Since)
					}
				}
				s = ticks(t, s)
				s = ticks(t, s)
				s = ticks(t, s)
			}
		}
	}
}

// A part that comes into the window is sent at the next tick, whatever the ticks of those in front of it.
func TestTickOfWhatComesLater(t *testing.T) {
	s := impl.Send{Base: 100, Items: unsent(10)}
	s = ticks(t, s, 100, 101, 102, 103, 104, 105, 106, 107)
	s = impl.SendWord(s, 101, 0)
	s = ticks(t, s, 108)
	s = impl.SendWord(s, 102, 4)
	s, _ = impl.SendPush(s, "behind")
	s = ticks(t, s, 109)
	s = ticks(t, s)
	s = ticks(t, s, 102, 103, 105, 106, 107)
	s = ticks(t, s, 108)
	s = impl.SendWord(s, 110, 0)
	s = ticks(t, s, 110)
	s = ticks(t, s)
	s = ticks(t, s)
	s = ticks(t, s)
	ticks(t, s, 110)
}

// P3, of any Send: what is sent is counted from outside, part by part.
func TestTickEachPart(t *testing.T) {
	source := rand.New(rand.NewSource(6))
	for range 500 {
		s := someSend(source)
		last := map[int]int{}
		for now := range 20 {
			before := s
			var sent []int
			s, sent = impl.SendTick(s)
			if !slices.IsSorted(sent) {
				t.Fatalf("%v is not in order", sent)
			}
			for place, item := range before.Items {
				number := before.Base + place
				_, known := last[number]
				if !known && item.Since >= 0 {
					last[number] = now - 1 - item.Since
				}
				due := place < 8 && !item.Has && (item.Since == -1 || now-last[number] == 4)
				if slices.Contains(sent, number) != due {
					t.Fatalf("tick %d of %s: part %d is sent: %v", now, fmt.Sprint(before), number, !due)
				}
				if due {
					last[number] = now
				}
			}
			for _, number := range sent {
				if number < before.Base || number >= before.Base+min(8, len(before.Items)) {
					t.Fatalf("%d is sent from Base %d", number, before.Base)
				}
			}
			if source.Intn(5) == 0 {
				s = impl.SendWord(s, s.Base+source.Intn(3), source.Intn(256))
			}
		}
	}
}
