package tests

import (
	"strings"
	"testing"

	"loop.example/kilnwind/impl"
)

func TestPacketLimits(t *testing.T) {
	if impl.PartSize != 20 || impl.MaxSeq != 1000000 || impl.MaxLife != 1000 || impl.PackWord != 1 || impl.PackData != 2 {
		t.Error("the limits are not those of the document")
	}
}

// P1: what is formed is read again, for every valid packet, key and width.
func TestReadOfForm(t *testing.T) {
	keys := []string{"", "k", "\x00", "a\x00b", strings.Repeat("k", 30)}
	for _, p := range validPackets() {
		body := wantBody(p)
		for _, key := range keys {
			for width := 1; width <= 8; width++ {
				s := impl.FormPacket(p, key, width)
				if want := sealed(body, key, width); s != want {
					t.Fatalf("FormPacket(%+v, %q, %d) = %q, not %q", p, key, width, s, want)
				}
				if q, ok := impl.ReadPacket(s, key, width); !ok || q != p {
					t.Fatalf("ReadPacket(%q, %q, %d) = %+v, %v, not %+v", s, key, width, q, ok, p)
				}
			}
		}
	}
}

func TestFormOfNoValidPacket(t *testing.T) {
	word := impl.Packet{Kind: impl.PackWord, From: 1, Mine: 1}
	data := impl.Packet{Kind: impl.PackData, From: 1, Mine: 1}
	wrong := map[string]impl.Packet{"nothing": {}}
	both := func(name string, change func(p *impl.Packet)) {
		w, d := word, data
		change(&w)
		change(&d)
		wrong["word, "+name], wrong["data, "+name] = w, d
	}
	one := func(name string, p impl.Packet, change func(p *impl.Packet)) {
		change(&p)
		wrong[name] = p
	}
	both("Kind 0", func(p *impl.Packet) { p.Kind = 0 })
	both("Kind 3", func(p *impl.Packet) { p.Kind = 3 })
	both("Kind -1", func(p *impl.Packet) { p.Kind = -1 })
	both("Kind that wraps", func(p *impl.Packet) { p.Kind += 256 })
	both("From 0", func(p *impl.Packet) { p.From = 0 })
	both("From 3", func(p *impl.Packet) { p.From = 3 })
	both("From -1", func(p *impl.Packet) { p.From = -1 })
	both("From that wraps", func(p *impl.Packet) { p.From = 257 })
	both("Mine 0", func(p *impl.Packet) { p.Mine = 0 })
	both("Mine -1", func(p *impl.Packet) { p.Mine = -1 })
	both("Mine 1001", func(p *impl.Packet) { p.Mine = 1001 })
	both("Mine that wraps", func(p *impl.Packet) { p.Mine = 65537 })
	both("Yours -1", func(p *impl.Packet) { p.Yours = -1 })
	both("Yours 1001", func(p *impl.Packet) { p.Yours = 1001 })
	both("Yours that wraps", func(p *impl.Packet) { p.Yours = 65536 })
	one("Next -1", word, func(p *impl.Packet) { p.Next = -1 })
	one("Next 1000001", word, func(p *impl.Packet) { p.Next = 1000001 })
	one("Next that wraps", word, func(p *impl.Packet) { p.Next = 1 << 32 })
	one("Mask -1", word, func(p *impl.Packet) { p.Mask = -1 })
	one("Mask 256", word, func(p *impl.Packet) { p.Mask = 256 })
	one("word with Seq 1", word, func(p *impl.Packet) { p.Seq = 1 })
	one("word with Seq -1", word, func(p *impl.Packet) { p.Seq = -1 })
	one("word with Last", word, func(p *impl.Packet) { p.Last = true })
	one("word with a Part", word, func(p *impl.Packet) { p.Part = "\x00" })
	one("Seq -1", data, func(p *impl.Packet) { p.Seq = -1 })
	one("Seq 1000000", data, func(p *impl.Packet) { p.Seq = 1000000 })
	one("Seq that wraps", data, func(p *impl.Packet) { p.Seq = 1 << 32 })
	one("data with Next 1", data, func(p *impl.Packet) { p.Next = 1 })
	one("data with Next -1", data, func(p *impl.Packet) { p.Next = -1 })
	one("data with Mask 1", data, func(p *impl.Packet) { p.Mask = 1 })
	one("Part of 21 bytes", data, func(p *impl.Packet) { p.Part = strings.Repeat("p", 21) })
	one("Part of 276 bytes", data, func(p *impl.Packet) { p.Part = strings.Repeat("p", 276) })
	for name, p := range wrong {
		for width := 1; width <= 8; width++ {
			if s := impl.FormPacket(p, "key", width); s != "" {
				t.Errorf("%s, width %d: %q", name, width, s)
			}
		}
	}
}

func TestFormWithNoKeyOrWidth(t *testing.T) {
	for _, p := range samplePackets() {
		for _, width := range []int{-1, 0, 9, 264} {
			if s := impl.FormPacket(p, "key", width); s != "" {
				t.Errorf("width %d: %q", width, s)
			}
		}
		if s := impl.FormPacket(p, strings.Repeat("k", 31), 8); s != "" {
			t.Errorf("key of 31 bytes: %q", s)
		}
	}
}
