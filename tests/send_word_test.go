package tests

import (
	"math/rand"
	"testing"

	"loop.example/kilnwind/impl"
)

// sentFront is a Send with so many items, of which so many at the front have been sent.
func sentFront(base, count, front int) impl.Send {
	s := impl.Send{Base: base, Items: unsent(count)}
	for i := range front {
		s.Items[i].Since = i % 4
	}
	return s
}

func wordStays(t *testing.T, s impl.Send, next, mask int) {
	t.Helper()
	if after := impl.SendWord(s, next, mask); !equalSends(after, s) {
		t.Errorf("next %d, mask %d: %+v became %+v", next, mask, s, after)
	}
}

// What is told may reach from Base to the end of what has been sent at the front, and no further.
func TestWordNext(t *testing.T) {
	for _, base := range []int{0, 57, 999940} {
		for _, count := range []int{0, 1, 8, 9, 60} {
			for front := 0; front <= min(count, 8); front++ {
				s := sentFront(base, count, front)
				for next := base; next <= base+front; next++ {
					after := impl.SendWord(s, next, 0)
					if !equalSends(after, impl.Send{Base: next, Items: s.Items[next-base:]}) {
						t.Errorf("%d of %d Items from %d sent, next %d: %+v", front, count, base, next, after)
					}
				}
				for _, next := range []int{-1 << 63, -1, base - 1, base + front + 1, base + front + 60, 1000001, 1<<63 - 1} {
					wordStays(t, s, next, 0)
					wordStays(t, s, next, 255)
				}
			}
		}
	}
}

// Behind one that was never sent, none counts as sent at the front.
func TestWordNextBehindAGap(t *testing.T) {
	s := sentFront(20, 10, 8)
	s.Items[3].Since = -1
	wordStays(t, s, 24, 0)
	wordStays(t, s, 24, 255)
	wordStays(t, s, 28, 0)
	if after := impl.SendWord(s, 23, 0); !equalSends(after, impl.Send{Base: 23, Items: s.Items[3:]}) {
		t.Errorf("%+v", after)
	}
	s.Items[0].Since = -1
	wordStays(t, s, 21, 0)
	after := impl.SendWord(s, 20, 255)
	for place, item := range after.Items {
		if item.Has != (place < 8 && place != 0 && place != 3) {
			t.Errorf("place %d: Has is %v", place, item.Has)
		}
	}
}

func TestWordMask(t *testing.T) {
	for next := 1000; next <= 1008; next++ {
		for mask := range 256 {
			after := impl.SendWord(sentFront(1000, 12, 8), next, mask)
			if after.Base != next || len(after.Items) != 12-(next-1000) {
				t.Fatalf("next %d, mask %d: %+v", next, mask, after)
			}
			for place, item := range after.Items {
				told := place < 8 && mask>>place&1 == 1
				if item.Has != (told && place < 1008-next) {
					t.Errorf("next %d, mask %d, place %d: Has is %v", next, mask, place, item.Has)
				}
			}
		}
	}
}

func TestWordMaskThatIsNoByte(t *testing.T) {
	s := sentFront(1000, 12, 8)
	for _, mask := range []int{-1 << 63, -256, -1, 256, 257, 511, 1<<63 - 1} {
		for _, next := range []int{999, 1000, 1001, 1008, 1009} {
			wordStays(t, s, next, mask)
		}
	}
}

// What an item has, a later word that does not tell it does not take away, and the ticks stay.
func TestWordKeepsWhatWasTold(t *testing.T) {
	s := sentFront(0, 8, 8)
	s = impl.SendWord(s, 0, 0b10101010)
	s = impl.SendWord(s, 0, 0b00000001)
	s = impl.SendWord(s, 1, 0)
	for place, item := range s.Items {
		if want := place%2 == 0; item.Has != want || item.Since != (place+1)%4 || item.Part.Text != letters(place+1) {
			t.Errorf("place %d: %+v", place, item)
		}
	}
}

func TestWordOfAnySend(t *testing.T) {
	source := rand.New(rand.NewSource(7))
	for range 5000 {
		s := someSend(source)
		for next := s.Base - 1; next <= s.Base+9; next++ {
			mask := source.Intn(256)
			if after, want := impl.SendWord(s, next, mask), wantWord(s, next, mask); !equalSends(after, want) {
				t.Fatalf("SendWord(%+v, %d, %d) = %+v, not %+v", s, next, mask, after, want)
			}
		}
	}
}
