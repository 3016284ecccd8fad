package tests

import (
	"math/rand"
	"slices"
	"strings"
	"testing"

	"loop.example/kilnwind/impl"
)

// letters is a text of so many bytes in which neighbours differ, so that parts in another order are seen.
func letters(size int) string {
	b := make([]byte, size)
	for i := range b {
		b[i] = byte(i * 37)
	}
	return string(b)
}

func joinRefused(t *testing.T, what string, parts []impl.Part) {
	t.Helper()
	if list, open, ok := impl.Join(parts); ok || len(list) != 0 || open != "" {
		t.Errorf("%s: %d messages, %q, %v", what, len(list), open, ok)
	}
}

func TestPartsLimits(t *testing.T) {
	if impl.MaxMessage != 200 {
		t.Error("the limit is not that of the document")
	}
}

func TestCutAtEverySize(t *testing.T) {
	for size := 0; size <= 200; size++ {
		message := letters(size)
		parts := impl.Cut(message)
		count := max(1, (size+19)/20)
		if len(parts) != count {
			t.Fatalf("%d bytes: %d parts, not %d", size, len(parts), count)
		}
		for i, part := range parts {
			want := impl.Part{Text: message[i*20 : min(size, i*20+20)], Last: i == count-1}
			if part != want {
				t.Errorf("%d bytes, part %d: %+v, not %+v", size, i, part, want)
			}
		}
	}
}

func TestCutOfTooMuch(t *testing.T) {
	for _, size := range []int{201, 220, 400, 456, 65536} {
		if parts := impl.Cut(letters(size)); len(parts) != 0 {
			t.Errorf("%d bytes: %d parts", size, len(parts))
		}
	}
}

func TestCutIsNewMemory(t *testing.T) {
	for _, size := range []int{1, 20, 21, 200} {
		message := letters(size)
		for _, part := range impl.Cut(message) {
			newText(t, "Cut", part.Text, message)
		}
	}
}

func TestJoin(t *testing.T) {
	cases := []struct {
		what  string
		parts []impl.Part
		list  []string
		open  string
	}{
		{"no parts", nil, nil, ""},
		{"one open part", []impl.Part{{Text: "a"}}, nil, "a"},
		{"one empty open part", []impl.Part{{}}, nil, ""},
		{"one empty message", []impl.Part{{Last: true}}, []string{""}, ""},
		{"messages in parts of any size", []impl.Part{{Text: "a"}, {}, {Text: "bc", Last: true}, {Text: "d", Last: true}}, []string{"abc", "d"}, ""},
		{"messages and open", []impl.Part{{Text: "a", Last: true}, {Text: "b"}, {Text: "c"}}, []string{"a"}, "bc"},
		{"empty messages between", []impl.Part{{Last: true}, {Text: "x", Last: true}, {Last: true}, {}}, []string{"", "x", ""}, ""},
		{"any bytes", []impl.Part{{Text: "\x00\xff"}, {Text: "\x80\n", Last: true}}, []string{"\x00\xff\x80\n"}, ""},
	}
	for _, c := range cases {
		list, open, ok := impl.Join(c.parts)
		if !ok || open != c.open || !slices.Equal(list, c.list) {
			t.Errorf("%s: %q, %q, %v", c.what, list, open, ok)
		}
	}
}

func TestJoinSizeOfPart(t *testing.T) {
	full := strings.Repeat("f", 20)
	if list, _, ok := impl.Join([]impl.Part{{Text: full, Last: true}}); !ok || !slices.Equal(list, []string{full}) {
		t.Error("a part of 20 bytes")
	}
	for _, last := range []bool{false, true} {
		joinRefused(t, "a part of 21 bytes", []impl.Part{{Text: full + "f", Last: last}})
		joinRefused(t, "a part of 21 bytes at the end", []impl.Part{{Text: "a", Last: true}, {Text: full + "f", Last: last}})
		joinRefused(t, "a part of 21 bytes in front", []impl.Part{{Text: full + "f", Last: last}, {Text: "a", Last: true}})
	}
}

func TestJoinSizeOfMessage(t *testing.T) {
	text := letters(200)
	var parts []impl.Part
	for i := 0; i < 200; i += 20 {
		parts = append(parts, impl.Part{Text: text[i : i+20]})
	}
	if list, open, ok := impl.Join(parts); !ok || len(list) != 0 || open != text {
		t.Errorf("200 bytes open: %d messages, %d bytes, %v", len(list), len(open), ok)
	}
	if _, open, ok := impl.Join(append(slices.Clone(parts), impl.Part{})); !ok || open != text {
		t.Error("200 bytes open and an empty part behind them")
	}
	joinRefused(t, "201 bytes open", append(slices.Clone(parts), impl.Part{Text: "x"}))
	joinRefused(t, "a message of 201 bytes", append(slices.Clone(parts), impl.Part{Text: "x", Last: true}))
	joinRefused(t, "a message of 201 bytes that is followed", append(slices.Clone(parts), impl.Part{Text: "x", Last: true}, impl.Part{Last: true}))
	parts[9].Last = true
	if list, open, ok := impl.Join(parts); !ok || open != "" || !slices.Equal(list, []string{text}) {
		t.Errorf("a message of 200 bytes: %d messages, %q, %v", len(list), open, ok)
	}
	if list, open, ok := impl.Join(append(slices.Clone(parts), parts...)); !ok || open != "" || !slices.Equal(list, []string{text, text}) {
		t.Errorf("two messages of 200 bytes: %d messages, %q, %v", len(list), open, ok)
	}
	joinRefused(t, "a good message, then 201 bytes open", append(append(slices.Clone(parts), parts[:9]...), impl.Part{Text: text[180:]}, impl.Part{Text: "x"}))
}

func TestJoinNumberOfParts(t *testing.T) {
	parts := make([]impl.Part, 1000001)
	if list, open, ok := impl.Join(parts[:1000000]); !ok || len(list) != 0 || open != "" {
		t.Error("1000000 open parts")
	}
	joinRefused(t, "1000001 open parts", parts)
	for i := range parts {
		parts[i].Last = true
	}
	if list, open, ok := impl.Join(parts[:1000000]); !ok || len(list) != 1000000 || open != "" {
		t.Error("1000000 messages")
	}
	joinRefused(t, "1000001 messages", parts)
}

// P2: Join of Cut of messages, one behind the other, are these messages with nothing open.
func TestJoinOfCut(t *testing.T) {
	for size := 0; size <= 200; size++ {
		message := letters(size)
		list, open, ok := impl.Join(impl.Cut(message))
		if !ok || open != "" || !slices.Equal(list, []string{message}) {
			t.Errorf("%d bytes: %q, %q, %v", size, list, open, ok)
		}
	}
	source := rand.New(rand.NewSource(2))
	edges := []int{0, 1, 19, 20, 21, 40, 180, 181, 199, 200}
	for range 300 {
		var messages []string
		var parts []impl.Part
		for range source.Intn(12) {
			size := edges[source.Intn(len(edges))]
			if source.Intn(2) == 0 {
				size = source.Intn(201)
			}
			b := make([]byte, size)
			source.Read(b)
			messages = append(messages, string(b))
			parts = append(parts, impl.Cut(string(b))...)
		}
		if list, open, ok := impl.Join(parts); !ok || open != "" || !slices.Equal(list, messages) {
			t.Fatalf("Join of Cut of %q: %q, %q, %v", messages, list, open, ok)
		}
	}
}

func TestJoinLeavesItsArgument(t *testing.T) {
	mark := impl.Part{Text: "mark"}
	parts := roomy([]impl.Part{{Text: "whole", Last: true}, {Text: "open"}}, mark)
	before := whole(parts)
	list, open, ok := impl.Join(parts)
	if !ok || !slices.Equal(list, []string{"whole"}) || open != "open" {
		t.Fatalf("%q, %q, %v", list, open, ok)
	}
	newText(t, "Join's message", list[0], parts[0].Text)
	newText(t, "Join's open text", open, parts[1].Text)
	overwrite(list, "mark")
	if !slices.Equal(before, whole(parts)) {
		t.Errorf("%+v became %+v", before, whole(parts))
	}
}
