package impl

import (
	"errors"
	"strings"
)

// Limits of packets.
const (
	PartSize = 20
	MaxSeq   = 1000000
	MaxLife  = 1000
)

// Kinds of packets.
const (
	PackWord = 1
	PackData = 2
)

// maxMask: a word's mask is one byte.
const maxMask = 255

// Places in a body, and the bodies' sizes.
const (
	headSize   = 6
	numberEnd  = 10
	wordSize   = 11
	dataPrefix = 11
)

// Packet is what goes from one end to the other.
type Packet struct {
	Kind  int
	From  int
	Mine  int
	Yours int
	Next  int
	Mask  int
	Seq   int
	Last  bool
	Part  string
}

// FormPacket writes a packet.
func FormPacket(p Packet, key string, width int) string {
	l, ok := letterOf(p)
	if !ok || !isSeal(key, width) {
		return ""
	}
	body := l.body()
	return Tag(body, key, width) + body
}

// ReadPacket reads a packet.
func ReadPacket(s string, key string, width int) (Packet, bool) {
	l, err := readForm(s, key, width)
	if err != nil {
		return Packet{}, false
	}
	return packetOf(l), true
}

// letter is a packet of one kind, which has the fields of that kind alone.
type letter interface {
	valid() bool
	body() string
}

// head is what words and data have alike.
type head struct {
	from  int
	mine  int
	yours int
}

// word tells what an end has.
type word struct {
	head head
	next int
	mask int
}

// data brings a part.
type data struct {
	head head
	seq  int
	last bool
	part string
}

// letterOf is the letter of a valid packet.
func letterOf(p Packet) (letter, bool) {
	h := head{from: p.From, mine: p.Mine, yours: p.Yours}
	var l letter
	switch p.Kind {
	case PackWord:
		l = word{head: h, next: p.Next, mask: p.Mask}
	case PackData:
		l = data{head: h, seq: p.Seq, last: p.Last, part: p.Part}
	default:
		return nil, false
	}
	// A field that is lost on the way is one that this kind must not have.
	if !l.valid() || packetOf(l) != p {
		return nil, false
	}
	return l, true
}

// packetOf is the packet of a letter.
func packetOf(l letter) Packet {
	switch x := l.(type) {
	case word:
		return Packet{Kind: PackWord, From: x.head.from, Mine: x.head.mine, Yours: x.head.yours, Next: x.next, Mask: x.mask}
	case data:
		return Packet{Kind: PackData, From: x.head.from, Mine: x.head.mine, Yours: x.head.yours, Seq: x.seq, Last: x.last, Part: x.part}
	}
	return Packet{}
}

func (h head) valid() bool {
	return isEnd(h.from) && within(h.mine, 1, MaxLife) && within(h.yours, 0, MaxLife)
}

func (w word) valid() bool {
	return w.head.valid() && within(w.next, 0, MaxSeq) && within(w.mask, 0, maxMask)
}

func (d data) valid() bool {
	return d.head.valid() && within(d.seq, 0, MaxSeq-1) && len(d.part) <= PartSize
}

// isEnd says whether an end has this number.
func isEnd(number int) bool {
	return number == 1 || number == 2
}

func within(number, low, high int) bool {
	return low <= number && number <= high
}

func (h head) text(kind int) string {
	return byteText(kind) + byteText(h.from) + numberText(uint64(h.mine), 2) + numberText(uint64(h.yours), 2)
}

func (w word) body() string {
	return w.head.text(PackWord) + numberText(uint64(w.next), 4) + byteText(w.mask)
}

func (d data) body() string {
	mark := 0
	if d.last {
		mark = 1
	}
	return d.head.text(PackData) + numberText(uint64(d.seq), 4) + byteText(mark) + d.part
}

func byteText(number int) string {
	return numberText(uint64(number), 1)
}

// What may be wrong with a text that is to be read.
var (
	errSeal  = errors.New("no such key or width")
	errShort = errors.New("too short")
	errSize  = errors.New("another size")
	errTag   = errors.New("another tag")
	errMark  = errors.New("neither last nor not last")
	errRange = errors.New("a number or part beyond its limit")
)

// otherKind is the fault of a body that is of another kind than the one it was read as.
type otherKind struct {
	kind int
}

func (f *otherKind) Error() string {
	return "another kind"
}

// readFault says what was being read when a fault was met.
type readFault struct {
	thing string
	cause error
}

func (f *readFault) Error() string {
	return f.thing + ": " + f.cause.Error()
}

func (f *readFault) Unwrap() error {
	return f.cause
}

// readForm is the letter of a form.
func readForm(s string, key string, width int) (letter, error) {
	if !isSeal(key, width) {
		return nil, &readFault{thing: "form", cause: errSeal}
	}
	if len(s) < width {
		return nil, &readFault{thing: "form", cause: errShort}
	}
	body := s[width:]
	if s[:width] != Tag(body, key, width) {
		return nil, &readFault{thing: "form", cause: errTag}
	}
	return readBody(body)
}

// readBody reads a word, or data where the fault is that the body says it is data.
func readBody(body string) (letter, error) {
	l, err := readWord(body)
	var other *otherKind
	if errors.As(err, &other) && other.kind == PackData {
		l, err = readData(body)
	}
	if err != nil {
		return nil, &readFault{thing: "body", cause: err}
	}
	return l, nil
}

func readWord(body string) (letter, error) {
	h, err := readHead(body, PackWord)
	if err != nil {
		return nil, &readFault{thing: "word", cause: err}
	}
	if len(body) != wordSize {
		return nil, &readFault{thing: "word", cause: errSize}
	}
	w := word{head: h, next: readNumber(body[headSize:numberEnd]), mask: int(body[numberEnd])}
	if !w.valid() {
		return nil, &readFault{thing: "word", cause: errRange}
	}
	return w, nil
}

func readData(body string) (letter, error) {
	h, err := readHead(body, PackData)
	if err != nil {
		return nil, &readFault{thing: "data", cause: err}
	}
	if len(body) < dataPrefix {
		return nil, &readFault{thing: "data", cause: errShort}
	}
	mark := body[numberEnd]
	if mark > 1 {
		return nil, &readFault{thing: "data", cause: errMark}
	}
	d := data{head: h, seq: readNumber(body[headSize:numberEnd]), last: mark == 1, part: body[dataPrefix:]}
	if !d.valid() {
		return nil, &readFault{thing: "data", cause: errRange}
	}
	// An answer shares no memory with the text that was read.
	d.part = strings.Clone(d.part)
	return d, nil
}

func readHead(body string, kind int) (head, error) {
	if len(body) < headSize {
		return head{}, errShort
	}
	if found := int(body[0]); found != kind {
		return head{}, &otherKind{kind: found}
	}
	return head{from: int(body[1]), mine: readNumber(body[2:4]), yours: readNumber(body[4:headSize])}, nil
}

// readNumber is the number that the bytes make, the highest first.
func readNumber(text string) int {
	number := 0
	for i := range len(text) {
		number = number<<8 | int(text[i])
	}
	return number
}
