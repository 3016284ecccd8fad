package tests

import (
	"math/rand"
	"slices"
	"strings"
	"testing"

	"loop.example/kilnwind/impl"
)

// The helpers here follow chapter 5 with lists alone, so that they do not share a fault with the program's ring.

func equalTakes(a, b impl.Take) bool {
	return a.Next == b.Next && a.Open == b.Open && slices.Equal(a.Held, b.Held) && slices.Equal(a.Ready, b.Ready)
}

func isNoTake(t impl.Take) bool {
	return equalTakes(t, impl.Take{})
}

func copyTake(t impl.Take) impl.Take {
	return impl.Take{Next: t.Next, Held: slices.Clone(t.Held), Open: t.Open, Ready: slices.Clone(t.Ready)}
}

// hasRoom says whether a part can be taken in.
func hasRoom(t impl.Take, part impl.Part) bool {
	if part.Last && len(t.Ready) >= 4 {
		return false
	}
	return len(t.Open+part.Text) <= 200
}

// wantValidTake is ValidTake.
func wantValidTake(t impl.Take) bool {
	if t.Next < 0 || t.Next > 1000000 || len(t.Open) > 200 || len(t.Ready) > 4 {
		return false
	}
	if slices.ContainsFunc(t.Ready, func(message string) bool { return len(message) > 200 }) {
		return false
	}
	for i, held := range t.Held {
		if held.Seq < t.Next || held.Seq > t.Next+7 || held.Seq > 999999 || len(held.Part.Text) > 20 {
			return false
		}
		if i > 0 && held.Seq <= t.Held[i-1].Seq || held.Seq == t.Next && hasRoom(t, held.Part) {
			return false
		}
	}
	return true
}

// wantTakenIn takes in what can be, from the front of Held on.
func wantTakenIn(t impl.Take) impl.Take {
	for len(t.Held) > 0 && t.Held[0].Seq == t.Next && hasRoom(t, t.Held[0].Part) {
		part := t.Held[0].Part
		t.Held = t.Held[1:]
		t.Next++
		t.Open += part.Text
		if part.Last {
			t.Ready = append(t.Ready, t.Open)
			t.Open = ""
		}
	}
	return t
}

// wantPart is TakePart of a valid Take.
func wantPart(t impl.Take, seq int, part impl.Part) impl.Take {
	after := copyTake(t)
	there := slices.ContainsFunc(t.Held, func(held impl.Held) bool { return held.Seq == seq })
	if seq < t.Next || seq > t.Next+7 || seq > 999999 || len(part.Text) > 20 || there {
		return after
	}
	after.Held = append(after.Held, impl.Held{Seq: seq, Part: part})
	slices.SortFunc(after.Held, func(a, b impl.Held) int { return a.Seq - b.Seq })
	return wantTakenIn(after)
}

// wantPull is TakePull of a valid Take.
func wantPull(t impl.Take) (impl.Take, string, bool) {
	after := copyTake(t)
	if len(t.Ready) == 0 {
		return after, "", false
	}
	after.Ready = after.Ready[1:]
	return wantTakenIn(after), t.Ready[0], true
}

// wantTold is TakeWord of a valid Take.
func wantTold(t impl.Take) (int, int) {
	powers := []int{1, 2, 4, 8, 16, 32, 64, 128}
	mask := 0
	for _, held := range t.Held {
		mask += powers[held.Seq-t.Next]
	}
	return t.Next, mask
}

func wantTakePart(t *testing.T, take impl.Take, seq int, part impl.Part, want impl.Take) {
	t.Helper()
	if after := impl.TakePart(take, seq, part); !equalTakes(after, want) {
		t.Errorf("TakePart(%+v, %d, %+v) = %+v, not %+v", take, seq, part, after, want)
	}
}

func partStays(t *testing.T, take impl.Take, seq int, part impl.Part) {
	t.Helper()
	wantTakePart(t, take, seq, part, take)
}

func wantTakePull(t *testing.T, take impl.Take, want impl.Take, wantMessage string, wantOk bool) {
	t.Helper()
	after, message, ok := impl.TakePull(take)
	if !equalTakes(after, want) || message != wantMessage || ok != wantOk {
		t.Errorf("TakePull(%+v) = %+v, %q, %v, not %+v, %q, %v", take, after, message, ok, want, wantMessage, wantOk)
	}
}

// somePart is a part, now and then one of the greatest size.
func somePart(source *rand.Rand) impl.Part {
	sizes := []int{0, 1, 10, 19, 20}
	return impl.Part{Text: letters(sizes[source.Intn(len(sizes))]), Last: source.Intn(3) == 0}
}

// someTake is a valid Take in any state.
func someTake(source *rand.Rand) impl.Take {
	nexts := []int{0, 1, 5, 7, 8, 9, 12345, 999985, 999991, 999992, 999993, 999998, 999999, 1000000}
	opens := []int{0, 0, 1, 100, 180, 181, 190, 199, 200}
	t := impl.Take{Next: nexts[source.Intn(len(nexts))], Open: letters(opens[source.Intn(len(opens))])}
	for i := range source.Intn(5) {
		t.Ready = append(t.Ready, strings.Repeat("r", i*50))
	}
	for seq := t.Next; seq <= min(t.Next+7, 999999); seq++ {
		part := somePart(source)
		if source.Intn(2) == 0 && (seq != t.Next || !hasRoom(t, part)) {
			t.Held = append(t.Held, impl.Held{Seq: seq, Part: part})
		}
	}
	return t
}

// heldAt are held parts with these numbers, of which none is the last of its message.
func heldAt(seqs ...int) []impl.Held {
	var held []impl.Held
	for _, seq := range seqs {
		held = append(held, impl.Held{Seq: seq, Part: impl.Part{Text: letters(seq % 21)}})
	}
	return held
}

// fourReady are as many messages as may be ready.
func fourReady() []string {
	return []string{"one", "", letters(200), "four"}
}

// wrongTakes are Takes that are not valid, by the reason for it.
func wrongTakes() map[string]impl.Take {
	one := func(seq, size int, last bool) []impl.Held {
		return []impl.Held{{Seq: seq, Part: impl.Part{Text: letters(size), Last: last}}}
	}
	return map[string]impl.Take{
		"Next -1":                                {Next: -1},
		"Next -1 and a Held":                     {Next: -1, Held: heldAt(1)},
		"Next -8 and a Held at -1":               {Next: -8, Held: one(-1, 1, false)},
		"Next 1000001":                           {Next: 1000001},
		"the least Next":                         {Next: -1 << 63},
		"the least Next and a Held behind it":    {Next: -1 << 63, Held: one(-1<<63+1, 1, false)},
		"the greatest Next":                      {Next: 1<<63 - 1},
		"the greatest Next and a Held at it":     {Next: 1<<63 - 1, Held: one(1<<63-1, 1, false)},
		"Held below Next":                        {Next: 5, Held: heldAt(4)},
		"Held below Next, then one above":        {Next: 5, Held: heldAt(4, 6)},
		"Held far below Next":                    {Next: 5, Held: one(-1<<63, 1, false)},
		"Held at Next + 8":                       {Next: 5, Held: heldAt(13)},
		"Held at Next + 7 and Next + 8":          {Next: 5, Held: heldAt(12, 13)},
		"Held far above Next":                    {Next: 5, Held: one(1<<63-1, 1, false)},
		"Held at 1000000":                        {Next: 999993, Held: heldAt(1000000)},
		"Held at 999999 and 1000000":             {Next: 999998, Held: heldAt(999999, 1000000)},
		"Held at Next 1000000":                   {Next: 1000000, Held: one(1000000, 20, true), Ready: fourReady()},
		"two Held of the same Seq":               {Held: heldAt(2, 2)},
		"two Held of the same Seq at the end":    {Held: heldAt(1, 3, 7, 7)},
		"two Held at Next that stand":            {Held: append(one(0, 1, true), one(0, 1, true)...), Ready: fourReady()},
		"Held that descend":                      {Held: heldAt(3, 2)},
		"Held that descend at the end":           {Held: heldAt(1, 2, 4, 3)},
		"Held that descend to Next":              {Held: append(heldAt(1), one(0, 1, true)...), Ready: fourReady()},
		"nine Held":                              {Held: heldAt(1, 2, 3, 4, 5, 6, 7, 8, 9)},
		"very many Held":                         {Held: make([]impl.Held, 100000)},
		"a Part of 21 bytes":                     {Held: one(1, 21, false)},
		"a last Part of 21 bytes":                {Held: one(7, 21, true)},
		"a Part of 21 bytes that is not first":   {Held: append(heldAt(1, 2), one(3, 21, false)...)},
		"a Part of 21 bytes at Next that stands": {Held: one(0, 21, true), Ready: fourReady()},
		"Open of 201 bytes":                      {Open: letters(201)},
		"Open of 456 bytes":                      {Open: letters(456)},
		"five Ready":                             {Ready: make([]string, 5)},
		"260 Ready":                              {Ready: make([]string, 260)},
		"a first Ready of 201 bytes":             {Ready: []string{letters(201), "b"}},
		"a last Ready of 201 bytes":              {Ready: []string{"a", "b", "c", letters(201)}},
		"a Held that can be taken in":            {Held: one(0, 1, false)},
		"a Held of nothing that can be taken in": {Held: one(0, 0, false)},
		"a last Held that can be taken in":       {Next: 12, Held: one(12, 1, true), Ready: []string{"a", "b", "c"}},
		"a Held that is not last, four Ready":    {Next: 12, Held: one(12, 1, false), Ready: fourReady()},
		"a Held that just can be taken in":       {Open: letters(180), Held: one(0, 20, false)},
		"a last Held that just can be taken in":  {Open: letters(199), Held: one(0, 1, true)},
		"an empty Held behind a full Open":       {Open: letters(200), Held: one(0, 0, true)},
		"a Held at 999999 that can be taken in":  {Next: 999999, Held: one(999999, 1, true)},
		"one that can be taken in, and others":   {Next: 3, Held: heldAt(3, 4, 9)},
	}
}

// textsOf are all texts of a Take.
func textsOf(t impl.Take) []string {
	texts := append([]string{t.Open}, t.Ready...)
	for _, held := range t.Held {
		texts = append(texts, held.Part.Text)
	}
	return texts
}

// leavesTake fails if what a call does, or what is done to its answers later, is to be seen in the Take it was given,
// or if a text of the answers lies in one of the texts that were given.
func leavesTake(t *testing.T, what string, take impl.Take, given []string, call func(impl.Take) (impl.Take, string)) {
	t.Helper()
	mark := impl.Held{Seq: 99, Part: impl.Part{Text: "mark", Last: true}}
	arg := impl.Take{Next: take.Next, Held: roomy(take.Held, mark), Open: take.Open, Ready: roomy(take.Ready, "mark")}
	held, ready := whole(arg.Held), whole(arg.Ready)
	after, message := call(arg)
	for _, text := range append(textsOf(after), message) {
		for _, old := range append(textsOf(take), given...) {
			newText(t, what, text, old)
		}
	}
	overwrite(after.Held, impl.Held{Seq: 98})
	overwrite(after.Ready, "over")
	if !slices.Equal(held, whole(arg.Held)) || !slices.Equal(ready, whole(arg.Ready)) {
		t.Errorf("%s: %+v, %q became %+v, %q", what, held, ready, whole(arg.Held), whole(arg.Ready))
	}
}
