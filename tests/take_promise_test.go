package tests

import (
	"math/rand"
	"slices"
	"strconv"
	"strings"
	"testing"

	"loop.example/kilnwind/impl"
)

// numbered is the part with a number, which no other part is like.
func numbered(seq int) impl.Part {
	return impl.Part{Text: "<" + strconv.Itoa(seq) + ">", Last: seq%5 == 2 || seq%7 == 3}
}

// P4: a valid Take stays valid; what it takes in is in the order of the numbers, each number once.
func TestTakesInOrderAndOnce(t *testing.T) {
	source := rand.New(rand.NewSource(15))
	for _, start := range []int{0, 3, 8, 77777, 999900, 999970, 999995} {
		for range 20 {
			takeInOrder(t, source, start)
		}
	}
}

func takeInOrder(t *testing.T, source *rand.Rand, start int) {
	t.Helper()
	take := impl.Take{Next: start}
	stream := "" // all that was pulled, message after message
	for range 400 {
		before := take.Next
		if source.Intn(5) == 0 {
			after, message, _ := impl.TakePull(take)
			take = after
			stream += message
		} else {
			seq := take.Next + source.Intn(14) - 4
			take = impl.TakePart(take, seq, numbered(seq))
		}
		if !impl.ValidTake(take) || !wantValidTake(take) {
			t.Fatalf("not valid: %+v", take)
		}
		if take.Next < before {
			t.Fatalf("Next %d became %d", before, take.Next)
		}
		var want strings.Builder
		for seq := start; seq < take.Next; seq++ {
			want.WriteString(numbered(seq).Text)
		}
		if got := stream + strings.Join(take.Ready, "") + take.Open; got != want.String() {
			t.Fatalf("from %d to %d: %s, not %s", start, take.Next, got, want.String())
		}
	}
	if take.Next < min(start+20, 1000000) {
		t.Errorf("from %d on only up to %d", start, take.Next)
	}
}

// P4: TakePart of a part that it has, or has taken in, changes nothing.
func TestPartOfOneItHasChangesNothing(t *testing.T) {
	source := rand.New(rand.NewSource(16))
	for range 3000 {
		take := someTake(source)
		for _, held := range take.Held {
			partStays(t, take, held.Seq, held.Part)
			partStays(t, take, held.Seq, somePart(source))
		}
		for back := 1; back <= 20; back++ {
			partStays(t, take, take.Next-back, somePart(source))
		}
		seq := take.Next + source.Intn(8)
		once := impl.TakePart(take, seq, somePart(source))
		partStays(t, once, seq, somePart(source))
	}
}

// P4: from any valid Take, any steps lead to valid ones, as the model of lists has it.
func TestTakeStaysValid(t *testing.T) {
	source := rand.New(rand.NewSource(17))
	for range 1500 {
		take := someTake(source)
		for range 25 {
			if source.Intn(4) == 0 {
				want, message, ok := wantPull(take)
				wantTakePull(t, take, want, message, ok)
				take, _, _ = impl.TakePull(take)
			} else {
				seq, part := take.Next+source.Intn(11)-1, somePart(source)
				wantTakePart(t, take, seq, part, wantPart(take, seq, part))
				take = impl.TakePart(take, seq, part)
			}
			if !impl.ValidTake(take) || !wantValidTake(take) {
				t.Fatalf("not valid: %+v", take)
			}
		}
	}
}

// isBeginning says whether a list is a beginning of another.
func isBeginning(list, of []string) bool {
	return len(list) <= len(of) && slices.Equal(list, of[:len(list)])
}

func cutAll(messages []string) []impl.Part {
	var parts []impl.Part
	for _, message := range messages {
		parts = append(parts, impl.Cut(message)...)
	}
	return parts
}

// someMessages are messages of any sizes, the greatest and the least among them.
func someMessages(source *rand.Rand, count int) []string {
	sizes := []int{0, 1, 19, 20, 21, 39, 40, 41, 199, 200}
	var messages []string
	for range count {
		b := make([]byte, sizes[source.Intn(len(sizes))])
		source.Read(b)
		messages = append(messages, string(b))
	}
	return messages
}

// P5: whatever parts of messages come, in any order and however often, what was pulled and is Ready is a beginning of
// the messages; and once all have come and all was pulled, it is all of them.
func TestWhatIsPulledIsABeginning(t *testing.T) {
	source := rand.New(rand.NewSource(18))
	for range 60 {
		messages := someMessages(source, 1+source.Intn(20))
		parts := cutAll(messages)
		pulls := 2 + source.Intn(30)
		var take impl.Take
		var pulled []string
		for range 40 * len(parts) {
			if source.Intn(pulls) == 0 {
				after, message, ok := impl.TakePull(take)
				take = after
				if ok {
					pulled = append(pulled, message)
				}
			} else {
				seq := source.Intn(len(parts))
				take = impl.TakePart(take, seq, parts[seq])
			}
			if got := append(slices.Clone(pulled), take.Ready...); !isBeginning(got, messages) {
				t.Fatalf("%q is no beginning of %q", got, messages)
			}
		}
		pulled = append(pulled, pullAll(take, parts)...)
		if !slices.Equal(pulled, messages) {
			t.Fatalf("%q, not %q", pulled, messages)
		}
	}
}

// pullAll brings the parts again from the last to the first, and pulls what there is, until all have been taken in.
func pullAll(take impl.Take, parts []impl.Part) []string {
	var pulled []string
	for range len(parts) + 1 {
		for seq := len(parts) - 1; seq >= 0; seq-- {
			take = impl.TakePart(take, seq, parts[seq])
		}
		after, message, ok := impl.TakePull(take)
		for ok {
			pulled = append(pulled, message)
			take = after
			after, message, ok = impl.TakePull(take)
		}
	}
	return pulled
}

// P5: all orders of a few parts, some of which must wait until something is pulled.
func TestAllOrdersOfParts(t *testing.T) {
	messages := []string{"a", "", letters(41), "b", "c"}
	parts := cutAll(messages)
	order := make([]int, len(parts))
	for i := range order {
		order[i] = i
	}
	count := 0
	eachOrder(order, 0, func(order []int) {
		count++
		var take impl.Take
		for _, seq := range order {
			take = impl.TakePart(take, seq, parts[seq])
			take = impl.TakePart(take, seq, parts[seq])
			if !isBeginning(take.Ready, messages) {
				t.Fatalf("%v: %q is no beginning", order, take.Ready)
			}
		}
		if !slices.Equal(take.Ready, messages[:4]) || take.Next != len(parts)-1 || len(take.Held) != 1 {
			t.Fatalf("%v: %+v", order, take)
		}
		after, message, ok := impl.TakePull(take)
		if !ok || message != "a" || !slices.Equal(after.Ready, messages[1:]) || after.Next != len(parts) || len(after.Held) != 0 {
			t.Fatalf("%v: %+v behind %q", order, after, message)
		}
	})
	if count != 5040 {
		t.Errorf("%d orders", count)
	}
}

// eachOrder hands out all orders of a list from a place on.
func eachOrder(list []int, from int, use func([]int)) {
	if from == len(list) {
		use(list)
		return
	}
	for i := from; i < len(list); i++ {
		list[from], list[i] = list[i], list[from]
		eachOrder(list, from+1, use)
		list[from], list[i] = list[i], list[from]
	}
}
