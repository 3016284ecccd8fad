package tests

import (
	"math/rand"
	"strings"
	"testing"

	"loop.example/kilnwind/impl"
)

// refused fails unless a text is read as nothing and false.
func refused(t *testing.T, what, s, key string, width int) {
	t.Helper()
	if q, ok := impl.ReadPacket(s, key, width); ok || q != (impl.Packet{}) {
		t.Errorf("%s: ReadPacket(%q, %q, %d) = %+v, %v", what, s, key, width, q, ok)
	}
}

// readAsAsked fails unless a body with a right tag is read as the document asks.
func readAsAsked(t *testing.T, body, key string, width int) {
	t.Helper()
	want, wantOk := wantRead(body)
	s := sealed(body, key, width)
	if q, ok := impl.ReadPacket(s, key, width); ok != wantOk || q != want {
		t.Errorf("ReadPacket(%q, %q, %d) = %+v, %v, not %+v, %v", s, key, width, q, ok, want, wantOk)
	}
}

func TestReadOfChangedForms(t *testing.T) {
	for _, p := range samplePackets() {
		s := impl.FormPacket(p, "key", 8)
		for size := range len(s) {
			refused(t, "cut", s[:size], "key", 8)
			refused(t, "cut in front", s[len(s)-size:], "key", 8)
		}
		for place := range len(s) {
			for change := 1; change < 256; change++ {
				b := []byte(s)
				b[place] ^= byte(change)
				refused(t, "changed", string(b), "key", 8)
			}
		}
		for _, more := range []string{"\x00", "\x01", "x"} {
			refused(t, "a byte too many", s+more, "key", 8)
			refused(t, "a byte in front", more+s, "key", 8)
		}
	}
}

func TestReadWithAnotherKeyOrWidth(t *testing.T) {
	long := strings.Repeat("k", 31)
	for _, p := range samplePackets() {
		body := wantBody(p)
		s := sealed(body, "key", 8)
		for _, key := range []string{"", "k", "kez", "key\x00", "\x00key", long[:30]} {
			refused(t, "another key", s, key, 8)
		}
		for width := 1; width < 8; width++ {
			refused(t, "another width", s, "key", width)
			refused(t, "another width", sealed(body, "key", width), "key", 8)
		}
		refused(t, "key of 31 bytes", sealed(body, long, 8), long, 8)
		refused(t, "a body alone", body, "key", 0)
		for _, width := range []int{-1 << 63, -1, 0, 9, 1<<63 - 1} {
			refused(t, "no width", s, "key", width)
			refused(t, "no width", "", "key", width)
		}
		refused(t, "a body alone under no key", body, long, 8)
	}
}

// P1: a right tag does not make a form of a body that no valid packet has.
func TestReadOfSealedBodies(t *testing.T) {
	for _, p := range samplePackets() {
		body := wantBody(p)
		for size := range len(body) {
			readAsAsked(t, body[:size], "key", 8)
		}
		for more := 1; more <= 25; more++ {
			readAsAsked(t, body+strings.Repeat("\x00", more), "key", 8)
		}
		for place := range len(body) {
			for value := range 256 {
				b := []byte(body)
				b[place] = byte(value)
				readAsAsked(t, string(b), "key", 3)
			}
		}
	}
}

func TestReadOfSealedEdges(t *testing.T) {
	cases := []struct {
		what, body string
		ok         bool
	}{
		{"the empty body", "", false},
		{"a kind alone", "\x01", false},
		{"a head of a word alone", "\x01\x01\x00\x01\x00\x00", false},
		{"a head of data alone", "\x02\x01\x00\x01\x00\x00", false},
		{"kind 0", "\x00\x01\x00\x01\x00\x00\x00\x00\x00\x00\x00", false},
		{"kind 3", "\x03\x01\x00\x01\x00\x00\x00\x00\x00\x00\x00", false},
		{"end 0", "\x01\x00\x00\x01\x00\x00\x00\x00\x00\x00\x00", false},
		{"end 1", "\x01\x01\x00\x01\x00\x00\x00\x00\x00\x00\x00", true},
		{"end 2", "\x01\x02\x00\x01\x00\x00\x00\x00\x00\x00\x00", true},
		{"end 3", "\x01\x03\x00\x01\x00\x00\x00\x00\x00\x00\x00", false},
		{"Mine 0", "\x01\x01\x00\x00\x00\x00\x00\x00\x00\x00\x00", false},
		{"Mine 1000", "\x01\x01\x03\xe8\x00\x00\x00\x00\x00\x00\x00", true},
		{"Mine 1001", "\x01\x01\x03\xe9\x00\x00\x00\x00\x00\x00\x00", false},
		{"Yours 1000", "\x02\x01\x00\x01\x03\xe8\x00\x00\x00\x00\x00", true},
		{"Yours 1001", "\x02\x01\x00\x01\x03\xe9\x00\x00\x00\x00\x00", false},
		{"Next 1000000", "\x01\x01\x00\x01\x00\x00\x00\x0f\x42\x40\xff", true},
		{"Next 1000001", "\x01\x01\x00\x01\x00\x00\x00\x0f\x42\x41\xff", false},
		{"Next all ones", "\x01\x01\x00\x01\x00\x00\xff\xff\xff\xff\x00", false},
		{"a word of 10 bytes", "\x01\x01\x00\x01\x00\x00\x00\x00\x00\x00", false},
		{"a word of 12 bytes", "\x01\x01\x00\x01\x00\x00\x00\x00\x00\x00\x00\x00", false},
		{"Seq 999999", "\x02\x01\x00\x01\x00\x00\x00\x0f\x42\x3f\x01", true},
		{"Seq 1000000", "\x02\x01\x00\x01\x00\x00\x00\x0f\x42\x40\x01", false},
		{"Seq all ones", "\x02\x01\x00\x01\x00\x00\xff\xff\xff\xff\x00", false},
		{"data of 10 bytes", "\x02\x01\x00\x01\x00\x00\x00\x00\x00\x00", false},
		{"a Last of 2", "\x02\x01\x00\x01\x00\x00\x00\x00\x00\x00\x02", false},
		{"a Last of 255", "\x02\x01\x00\x01\x00\x00\x00\x00\x00\x00\xff", false},
		{"a Part of 20 bytes", "\x02\x01\x00\x01\x00\x00\x00\x00\x00\x00\x00" + strings.Repeat("p", 20), true},
		{"a Part of 21 bytes", "\x02\x01\x00\x01\x00\x00\x00\x00\x00\x00\x00" + strings.Repeat("p", 21), false},
		{"a Part of 10000 bytes", "\x02\x01\x00\x01\x00\x00\x00\x00\x00\x00\x00" + strings.Repeat("p", 10000), false},
	}
	for _, c := range cases {
		for width := 1; width <= 8; width++ {
			if !c.ok {
				refused(t, c.what, sealed(c.body, "k", width), "k", width)
				continue
			}
			want, _ := wantRead(c.body)
			if q, ok := impl.ReadPacket(sealed(c.body, "k", width), "k", width); !ok || q != want {
				t.Errorf("%s, width %d: %+v, %v, not %+v", c.what, width, q, ok, want)
			}
		}
	}
}

// P1: with a width of one byte many texts bear a right tag by chance; what is read of them is what they are the form of.
func TestReadOfAnyText(t *testing.T) {
	source := rand.New(rand.NewSource(1))
	samples := samplePackets()
	found := 0
	for range 200000 {
		b := []byte(impl.FormPacket(samples[source.Intn(len(samples))], "k", 1))
		for range 1 + source.Intn(3) {
			b[source.Intn(len(b))] = byte(source.Intn(4))
		}
		s := string(b[:len(b)-source.Intn(2)])
		want, wantOk := wantRead(s[1:])
		if s[:1] != wantTag(s[1:], "k", 1) {
			want, wantOk = impl.Packet{}, false
		}
		q, ok := impl.ReadPacket(s, "k", 1)
		if ok != wantOk || q != want {
			t.Fatalf("ReadPacket(%q) = %+v, %v, not %+v, %v", s, q, ok, want, wantOk)
		}
		if ok {
			found++
			if again := impl.FormPacket(q, "k", 1); again != s {
				t.Fatalf("the form of what %q was read as is %q", s, again)
			}
		}
	}
	if found == 0 {
		t.Error("no text was a form: the test tells nothing")
	}
}

func TestReadPartIsNewMemory(t *testing.T) {
	p := impl.Packet{Kind: impl.PackData, From: 1, Mine: 1, Part: "a part"}
	s := impl.FormPacket(p, "k", 8)
	q, _ := impl.ReadPacket(s, "k", 8)
	newText(t, "ReadPacket", q.Part, s)
}
