package tests

import (
	"encoding/binary"
	"hash/fnv"
	"strings"

	"loop.example/kilnwind/impl"
)

// The helpers here follow the document with means of their own, so that they do not share a fault with the program.

// sealed is a body behind the tag that it should bear.
func sealed(body, key string, width int) string {
	return wantTag(body, key, width) + body
}

// wantTag: the document's sum is the 64 bit FNV-1a hash.
func wantTag(body, key string, width int) string {
	h := fnv.New64a()
	h.Write([]byte(key + "\x00" + body))
	sum := h.Sum(nil)
	return string(sum[8-width:])
}

// wantBody is the body of a packet that is valid.
func wantBody(p impl.Packet) string {
	b := []byte{byte(p.Kind), byte(p.From)}
	b = binary.BigEndian.AppendUint16(b, uint16(p.Mine))
	b = binary.BigEndian.AppendUint16(b, uint16(p.Yours))
	if p.Kind == impl.PackWord {
		b = binary.BigEndian.AppendUint32(b, uint32(p.Next))
		return string(append(b, byte(p.Mask)))
	}
	b = binary.BigEndian.AppendUint32(b, uint32(p.Seq))
	if p.Last {
		b = append(b, 1)
	} else {
		b = append(b, 0)
	}
	return string(b) + p.Part
}

// wantRead is the valid packet whose body this is.
func wantRead(body string) (impl.Packet, bool) {
	if len(body) < 11 {
		return impl.Packet{}, false
	}
	b := []byte(body)
	p := impl.Packet{Kind: int(b[0]), From: int(b[1]), Mine: int(binary.BigEndian.Uint16(b[2:])), Yours: int(binary.BigEndian.Uint16(b[4:]))}
	number := int64(binary.BigEndian.Uint32(b[6:]))
	if p.From != 1 && p.From != 2 || p.Mine == 0 || p.Mine > 1000 || p.Yours > 1000 {
		return impl.Packet{}, false
	}
	switch {
	case p.Kind == 1 && len(b) == 11 && number <= 1000000:
		p.Next, p.Mask = int(number), int(b[10])
		return p, true
	case p.Kind == 2 && len(b) <= 31 && number <= 999999 && b[10] <= 1:
		p.Seq, p.Last, p.Part = int(number), b[10] == 1, body[11:]
		return p, true
	}
	return impl.Packet{}, false
}

// validPackets are words and data in ordinary cases and with each limit met.
func validPackets() []impl.Packet {
	heads := []impl.Packet{
		{From: 1, Mine: 1},
		{From: 2, Mine: 1000, Yours: 1000},
		{From: 1, Mine: 256, Yours: 255},
		{From: 2, Mine: 2, Yours: 1},
	}
	var all []impl.Packet
	for _, h := range heads {
		for _, next := range []int{0, 1, 255, 256, 65536, 999999, 1000000} {
			for _, mask := range []int{0, 1, 128, 255} {
				p := h
				p.Kind, p.Next, p.Mask = impl.PackWord, next, mask
				all = append(all, p)
			}
		}
		for _, seq := range []int{0, 1, 255, 256, 65536, 999999} {
			for _, part := range []string{"", "\x00", "hi", "\xff\x00\x01", strings.Repeat("p", 19), strings.Repeat("\x00", 20)} {
				p := h
				p.Kind, p.Seq, p.Part = impl.PackData, seq, part
				all = append(all, p)
				p.Last = true
				all = append(all, p)
			}
		}
	}
	return all
}

// samplePackets are one word and data with an empty, an ordinary and a full part.
func samplePackets() []impl.Packet {
	return []impl.Packet{
		{Kind: impl.PackWord, From: 1, Mine: 2, Yours: 3, Next: 256, Mask: 5},
		{Kind: impl.PackData, From: 2, Mine: 1, Seq: 7, Last: true},
		{Kind: impl.PackData, From: 1, Mine: 258, Yours: 4, Seq: 70000, Part: "an ordinary part"},
		{Kind: impl.PackData, From: 2, Mine: 1000, Yours: 1000, Seq: 999999, Last: true, Part: strings.Repeat("f", 20)},
	}
}
