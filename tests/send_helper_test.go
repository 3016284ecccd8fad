package tests

import (
	"math/rand"
	"slices"
	"testing"

	"loop.example/kilnwind/impl"
)

// The helpers here follow chapter 4 with lists alone, so that they do not share a fault with the program's ring.

func equalSends(a, b impl.Send) bool {
	return a.Base == b.Base && slices.Equal(a.Items, b.Items)
}

func isNoSend(s impl.Send) bool {
	return s.Base == 0 && len(s.Items) == 0
}

// wantValid is ValidSend.
func wantValid(s impl.Send) bool {
	if s.Base < 0 || s.Base > 1000000 || len(s.Items) > 60 || s.Base+len(s.Items) > 1000000 {
		return false
	}
	for place, item := range s.Items {
		never := item.Since == -1
		inTime := 0 <= item.Since && item.Since <= 3
		if len(item.Part.Text) > 20 || !never && !inTime || place >= 8 && !never || never && item.Has {
			return false
		}
	}
	return true
}

// wantTick is SendTick of a valid Send.
func wantTick(s impl.Send) (impl.Send, []int) {
	after := impl.Send{Base: s.Base, Items: slices.Clone(s.Items)}
	var sent []int
	for place := range after.Items {
		item := &after.Items[place]
		if place >= 8 || item.Has {
			continue
		}
		item.Since++
		if item.Since == 0 || item.Since == 4 {
			item.Since = 0
			sent = append(sent, s.Base+place)
		}
	}
	return after, sent
}

// wantWord is SendWord of a valid Send.
func wantWord(s impl.Send, next, mask int) impl.Send {
	front := slices.IndexFunc(s.Items, func(item impl.Item) bool { return item.Since == -1 })
	if front < 0 {
		front = len(s.Items)
	}
	after := impl.Send{Base: s.Base, Items: slices.Clone(s.Items)}
	if next < s.Base || next > s.Base+front || mask < 0 || mask > 255 {
		return after
	}
	after.Items = after.Items[next-s.Base:]
	after.Base = next
	for place, bit := 0, 1; place < 8 && place < len(after.Items); place, bit = place+1, bit*2 {
		if item := &after.Items[place]; item.Since >= 0 && mask&bit != 0 {
			item.Has = true
		}
	}
	return after
}

// someSend is a valid Send, of any size, with its window in any state.
func someSend(source *rand.Rand) impl.Send {
	sizes := []int{0, 1, 7, 8, 9, 12, 59, 60}
	s := impl.Send{}
	for place := range sizes[source.Intn(len(sizes))] {
		item := impl.Item{Since: -1, Part: impl.Part{Text: letters(source.Intn(21)), Last: source.Intn(3) == 0}}
		if place < 8 && source.Intn(6) > 0 {
			item.Since = source.Intn(4)
			item.Has = source.Intn(3) == 0
		}
		s.Items = append(s.Items, item)
	}
	bases := []int{0, 1, 59, 60, 61, 12345, 1000000 - len(s.Items)}
	s.Base = bases[source.Intn(len(bases))]
	return s
}

// unsent are so many items that were never sent.
func unsent(count int) []impl.Item {
	items := make([]impl.Item, count)
	for i := range items {
		items[i] = impl.Item{Part: impl.Part{Text: letters(i % 21)}, Since: -1}
	}
	return items
}

// wrongSends are Sends that are not valid, by the reason for it.
func wrongSends() map[string]impl.Send {
	one := func(item impl.Item) impl.Send { return impl.Send{Items: []impl.Item{item}} }
	behind := func(place int, item impl.Item) impl.Send {
		items := unsent(60)
		for i := range 8 {
			items[i].Since = 0
		}
		items[place] = item
		return impl.Send{Items: items}
	}
	return map[string]impl.Send{
		"61 Items":                      {Items: unsent(61)},
		"316 Items":                     {Items: unsent(316)},
		"Base -1":                       {Base: -1},
		"Base -1 and an Item":           {Base: -1, Items: unsent(1)},
		"Base 1000001":                  {Base: 1000001},
		"the least Base":                {Base: -1 << 63},
		"the greatest Base":             {Base: 1<<63 - 1},
		"the greatest Base and an Item": {Base: 1<<63 - 1, Items: unsent(1)},
		"Base 1000000 and an Item":      {Base: 1000000, Items: unsent(1)},
		"Base 999941 and 60 Items":      {Base: 999941, Items: unsent(60)},
		"a Part of 21 bytes":            one(impl.Item{Part: impl.Part{Text: letters(21)}, Since: -1}),
		"a sent Part of 21 bytes":       one(impl.Item{Part: impl.Part{Text: letters(21)}}),
		"a Part of 21 bytes at the end": behind(59, impl.Item{Part: impl.Part{Text: letters(21)}, Since: -1}),
		"Since -2":                      one(impl.Item{Since: -2}),
		"Since -2 with Has":             one(impl.Item{Since: -2, Has: true}),
		"Since -2 behind the window":    behind(8, impl.Item{Since: -2}),
		"Since 4":                       one(impl.Item{Since: 4}),
		"Since 4 with Has":              one(impl.Item{Since: 4, Has: true}),
		"Since 4 behind the window":     behind(8, impl.Item{Since: 4}),
		"the least Since":               one(impl.Item{Since: -1 << 63}),
		"the greatest Since":            one(impl.Item{Since: 1<<63 - 1}),
		"Has that was never sent":       one(impl.Item{Since: -1, Has: true}),
		"Has behind the window":         behind(8, impl.Item{Since: -1, Has: true}),
		"Since 0 at place 8":            behind(8, impl.Item{}),
		"Since 3 at place 8":            behind(8, impl.Item{Since: 3}),
		"Since 0 at place 59":           behind(59, impl.Item{}),
		"Since 0 and Has at place 8":    behind(8, impl.Item{Has: true}),
		"a fault at place 7":            behind(7, impl.Item{Since: 4}),
	}
}

// leaves fails if what a call does, or what is done to its answers later, is to be seen in the Send it was given.
func leaves(t *testing.T, what string, s impl.Send, call func(impl.Send) impl.Send) {
	t.Helper()
	mark := impl.Item{Part: impl.Part{Text: "mark", Last: true}, Has: true, Since: 99}
	given := impl.Send{Base: s.Base, Items: roomy(s.Items, mark)}
	before := whole(given.Items)
	after := call(given)
	for _, item := range after.Items {
		for _, old := range s.Items {
			newText(t, what, item.Part.Text, old.Part.Text)
		}
	}
	if !slices.Equal(before, whole(given.Items)) {
		t.Errorf("%s: %+v became %+v", what, before, whole(given.Items))
	}
	overwrite(after.Items, impl.Item{Since: 98})
	if !slices.Equal(before, whole(given.Items)) {
		t.Errorf("%s: the answer lies in the argument", what)
	}
}
