package tests

import (
	"strings"
	"testing"

	"loop.example/kilnwind/impl"
)

func TestTagKnown(t *testing.T) {
	// The published FNV-1a hash of one byte 0: what an empty key and an empty body leave to be summed.
	if s := impl.Tag("", "", 8); s != "\xaf\x63\xbd\x4c\x86\x01\xb7\xdf" {
		t.Errorf("tag of nothing: %x", s)
	}
}

func TestTagIsTheSumsLastBytes(t *testing.T) {
	bodies := []string{"", "b", "\x00", "\xff\x80\x7f", "body", strings.Repeat("long", 500)}
	keys := []string{"", "k", "\x00", "key", strings.Repeat("\xff", 29), strings.Repeat("k", 30)}
	for _, body := range bodies {
		for _, key := range keys {
			for width := 1; width <= 8; width++ {
				if s, want := impl.Tag(body, key, width), wantTag(body, key, width); s != want {
					t.Errorf("Tag(%q, %q, %d) = %x, not %x", body, key, width, s, want)
				}
			}
		}
	}
}

func TestTagOfNoKeyOrWidth(t *testing.T) {
	for _, width := range []int{-1 << 63, -8, -1, 0, 9, 16, 257, 1<<63 - 1} {
		if s := impl.Tag("body", "k", width); s != "" {
			t.Errorf("width %d: %x", width, s)
		}
	}
	for _, size := range []int{31, 32, 286, 1000} {
		if s := impl.Tag("body", strings.Repeat("k", size), 8); s != "" {
			t.Errorf("key of %d bytes: %x", size, s)
		}
	}
}

func TestTagLimits(t *testing.T) {
	if impl.MaxWidth != 8 || impl.MaxKey != 30 {
		t.Error("the limits are not those of the document")
	}
}
