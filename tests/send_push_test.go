package tests

import (
	"slices"
	"testing"

	"loop.example/kilnwind/impl"
)

func pushRefused(t *testing.T, what string, s impl.Send, message string, want int) {
	t.Helper()
	if after, code := impl.SendPush(s, message); code != want || !isNoSend(after) {
		t.Errorf("%s: code %d, not %d; %+v", what, code, want, after)
	}
}

func TestPushAtEverySize(t *testing.T) {
	front := impl.Item{Part: impl.Part{Text: "front", Last: true}, Since: 2, Has: true}
	for size := 0; size <= 200; size++ {
		s := impl.Send{Base: 57, Items: []impl.Item{front}}
		after, code := impl.SendPush(s, letters(size))
		want := append([]impl.Item{front}, wantItems(letters(size))...)
		if code != 0 || after.Base != 57 || !slices.Equal(after.Items, want) {
			t.Errorf("%d bytes: %+v, code %d", size, after, code)
		}
	}
}

func TestPushOfTooMuch(t *testing.T) {
	for _, size := range []int{201, 202, 400, 456, 65536} {
		pushRefused(t, "a message too long", impl.Send{}, letters(size), 1)
		pushRefused(t, "a message too long for a full Send", impl.Send{Items: unsent(60)}, letters(size), 1)
		pushRefused(t, "a message too long at the end of the numbers", impl.Send{Base: 1000000}, letters(size), 1)
	}
}

// The room for items and for numbers may be met exactly.
func TestPushRoom(t *testing.T) {
	for count := 0; count <= 60; count++ {
		for parts := 1; parts <= 10; parts++ {
			message := letters(parts * 20)
			bases := []int{0, 1, 999940, 1000000 - count - parts - 1, 1000000 - count - parts, 1000000 - count - parts + 1, 1000000 - count}
			for _, base := range bases {
				s := impl.Send{Base: base, Items: unsent(count)}
				if !wantValid(s) {
					continue
				}
				if count+parts > 60 || base+count+parts > 1000000 {
					pushRefused(t, "no room", s, message, 3)
					continue
				}
				after, code := impl.SendPush(s, message)
				if code != 0 || len(after.Items) != count+parts || after.Base != base {
					t.Errorf("%d parts behind %d from %d: code %d, %d Items", parts, count, base, code, len(after.Items))
				}
			}
		}
	}
	pushRefused(t, "an empty message behind 60 Items", impl.Send{Items: unsent(60)}, "", 3)
	pushRefused(t, "an empty message behind the numbers", impl.Send{Base: 1000000}, "", 3)
	after, code := impl.SendPush(impl.Send{Base: 999999}, "")
	if code != 0 || after.Base != 999999 || !slices.Equal(after.Items, wantItems("")) {
		t.Errorf("an empty message at the last number: %+v, code %d", after, code)
	}
}
