package tests

import (
	"math/rand"
	"testing"

	"loop.example/kilnwind/impl"
)

func TestEndPush(t *testing.T) {
	for _, size := range []int{0, 1, 20, 21, 199, 200} {
		want := talking()
		want.Send.Items = append(want.Send.Items, wantItems(letters(size))...)
		wantActed(t, "EndPush", impl.EndPush(talking(), letters(size)), impl.Acted{End: want})
	}
}

func TestEndPushIsRefused(t *testing.T) {
	down := impl.End{Number: 1, Life: 4}
	alone := impl.End{Number: 2, Up: true, Life: 4, Since: 5, Owes: true}
	full, last := talking(), talking()
	full.Send.Items = unsent(60)
	last.Send = impl.Send{Base: 1000000}
	for _, size := range []int{0, 1, 200, 201, 100000} {
		wantActed(t, "not Up", impl.EndPush(down, letters(size)), impl.Acted{Code: 2})
		wantActed(t, "no Peer", impl.EndPush(alone, letters(size)), impl.Acted{Code: 2})
		code := 3
		if size > 200 {
			code = 1
			wantActed(t, "too long", impl.EndPush(talking(), letters(size)), impl.Acted{Code: 1})
		}
		wantActed(t, "60 Items", impl.EndPush(full, letters(size)), impl.Acted{Code: code})
		wantActed(t, "no number left", impl.EndPush(last, letters(size)), impl.Acted{Code: code})
	}
}

// The room for items and for numbers may be met exactly.
func TestEndPushRoom(t *testing.T) {
	e := talking()
	for _, s := range []impl.Send{{Items: unsent(50)}, {Base: 999940, Items: unsent(50)}, {Base: 999990}} {
		e.Send = s
		want := e
		want.Send.Items = append(unsent(len(s.Items)), wantItems(letters(200))...)
		wantActed(t, "ten parts", impl.EndPush(e, letters(200)), impl.Acted{End: want})
	}
	for _, s := range []impl.Send{{Items: unsent(51)}, {Base: 999941, Items: unsent(50)}, {Base: 999991}} {
		e.Send = s
		wantActed(t, "ten parts, one too many", impl.EndPush(e, letters(200)), impl.Acted{Code: 3})
	}
}

func TestPushToAnyEnd(t *testing.T) {
	source := rand.New(rand.NewSource(27))
	codes := map[int]int{}
	for range 5000 {
		e := someEnd(source)
		message := letters([]int{0, 1, 20, 21, 100, 200, 201}[source.Intn(7)])
		want := wantGiven(e, message)
		wantActed(t, "EndPush", impl.EndPush(e, message), want)
		codes[want.Code]++
	}
	if codes[0] < 500 || codes[1] < 100 || codes[2] < 100 || codes[3] < 100 {
		t.Errorf("%v: the test tells too little", codes)
	}
}

func TestEndPull(t *testing.T) {
	e := talking()
	for i, message := range []string{"a", "b"} {
		want := talking()
		want.Owes = true
		want.Take.Ready = want.Take.Ready[i+1:]
		a := impl.EndPull(e)
		wantActed(t, "EndPull", a, impl.Acted{End: want, Text: message})
		e = a.End
	}
	wantActed(t, "nothing Ready", impl.EndPull(e), impl.Acted{Code: 4})
}

func TestPullOfAnEmptyMessageFromAnEnd(t *testing.T) {
	e := impl.End{Number: 1, Up: true, Life: 1, Peer: 1, Take: impl.Take{Ready: []string{""}}}
	want := impl.End{Number: 1, Up: true, Life: 1, Peer: 1, Owes: true}
	wantActed(t, "an empty message", impl.EndPull(e), impl.Acted{End: want})
}

func TestEndPullIsRefused(t *testing.T) {
	wantActed(t, "not Up", impl.EndPull(impl.End{Number: 1, Life: 4}), impl.Acted{Code: 2})
	wantActed(t, "no Peer", impl.EndPull(impl.End{Number: 2, Up: true, Life: 4, Owes: true}), impl.Acted{Code: 4})
	e := talking()
	e.Take.Ready = nil
	wantActed(t, "nothing Ready", impl.EndPull(e), impl.Acted{Code: 4})
	e.Take.Ready = []string{}
	wantActed(t, "an empty Ready", impl.EndPull(e), impl.Acted{Code: 4})
}

func TestPullFromAnyEnd(t *testing.T) {
	source := rand.New(rand.NewSource(28))
	codes := map[int]int{}
	for range 5000 {
		e := someEnd(source)
		want := wantTaken(e)
		wantActed(t, "EndPull", impl.EndPull(e), want)
		codes[want.Code]++
	}
	if codes[0] < 500 || codes[2] < 100 || codes[4] < 100 {
		t.Errorf("%v: the test tells too little", codes)
	}
}
