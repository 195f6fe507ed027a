package word

import "nurserypy/api"

const wordBytes = 8

// Bytes as words.
func Bytes(s string) []api.Word {
	l := make([]api.Word, (len(s)+wordBytes-1)/wordBytes)
	for i := range len(s) {
		l[i/wordBytes] |= api.Word(s[i]) << shift(i)
	}
	return l
}

// Text of the first n bytes.
func Text(l []api.Word, n int) (string, error) {
	if n < 0 || n > wordBytes*len(l) {
		return "", api.ErrBound
	}
	s := make([]byte, n)
	for i := range n {
		s[i] = byte(l[i/wordBytes] >> shift(i))
	}
	return string(s), nil
}

// shift is where in its word the byte i begins.
func shift(i int) int { return i % wordBytes * 8 }
