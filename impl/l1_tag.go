// Package impl: two ends that hand messages to each other over bad links.
package impl

// Limits of tags.
const (
	MaxWidth = 8
	MaxKey   = 30
)

// How the sum of a text begins, and what it is multiplied by at each byte.
const (
	sumStart  uint64 = 14695981039346656037
	sumFactor uint64 = 1099511628211
)

// keyEnd stands between key and body.
const keyEnd = "\x00"

// Tag is the tag of a body under a key.
func Tag(body string, key string, width int) string {
	if !isSeal(key, width) {
		return ""
	}
	return numberText(sumOf(key, keyEnd, body), width)
}

// isSeal says whether tags can be made with this key and this width.
func isSeal(key string, width int) bool {
	return len(key) <= MaxKey && width >= 1 && width <= MaxWidth
}

// sumOf is the sum of the pieces as if they were one text.
func sumOf(pieces ...string) uint64 {
	sum := sumStart
	for _, piece := range pieces {
		for i := range len(piece) {
			sum ^= uint64(piece[i])
			sum *= sumFactor
		}
	}
	return sum
}

// numberText is the number's last size bytes, the highest first.
func numberText(number uint64, size int) string {
	text := make([]byte, size)
	for i := range size {
		text[size-1-i] = byte(number)
		number >>= 8
	}
	return string(text)
}
