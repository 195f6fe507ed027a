package word_test

import (
	"encoding/binary"
	"math"
	"math/rand"
	"slices"
	"strings"
	"sync"
	"testing"

	"nurserypy/api"
	"nurserypy/word"
)

func TestBytes(t *testing.T) {
	for s, want := range map[string][]api.Word{
		"":                                     nil,
		"a":                                    {0x61},
		"ab":                                   {0x6261},
		"abcdefg":                              {0x67666564636261},
		"abcdefgh":                             {0x6867666564636261},
		"abcdefghi":                            {0x6867666564636261, 0x69},
		"\x00":                                 {0},
		"\x00\x00\x00\x00\x00\x00\x00\x00\x00": {0, 0},
		"\xff\x00\xfe":                         {0xfe00ff},
		"\x00\x00\x00\x00\x00\x00\x00\x80":     {1 << 63},
		"ä€":                                   {0xac82e2a4c3},
	} {
		l := word.Bytes(s)
		if !slices.Equal(l, want) {
			t.Errorf("%q: %x; want %x", s, l, want)
		}
		if got, err := word.Text(l, len(s)); got != s || err != nil {
			t.Errorf("%x: %q, %v; want %q", l, got, err, s)
		}
	}
}

// laid: words of a text by the library's own layout, and as many as it needs.
func laid(s string) []api.Word {
	for len(s)%8 > 0 {
		s += "\x00"
	}
	var l []api.Word
	for b := []byte(s); len(b) > 0; b = b[8:] {
		l = append(l, binary.LittleEndian.Uint64(b))
	}
	return l
}

func TestBytesOfAnyLength(t *testing.T) {
	r := rand.New(rand.NewSource(1))
	for n := range 300 {
		b := make([]byte, n)
		r.Read(b)
		s := string(b)
		l := word.Bytes(s)
		if len(l) != (n+7)/8 || !slices.Equal(l, laid(s)) {
			t.Fatalf("%q: %x", s, l)
		}
		for k := range 8*len(l) + 1 {
			want := (s + strings.Repeat("\x00", 8))[:k]
			if got, err := word.Text(l, k); got != want || err != nil {
				t.Fatalf("%x, %d: %q, %v; want %q", l, k, got, err, want)
			}
		}
	}
	long := strings.Repeat("0123456789", 100000)
	if got, err := word.Text(word.Bytes(long), len(long)); got != long || err != nil {
		t.Error(len(got), err)
	}
}

// TestTextOfAnyWords: what lies behind the first n bytes is not asked, so every word is bytes.
func TestTextOfAnyWords(t *testing.T) {
	for k, want := range []string{"", "\xff", "\xff\xff", "\xff\xff\xff"} {
		if got, err := word.Text([]api.Word{math.MaxUint64}, k); got != want || err != nil {
			t.Errorf("%d: %q, %v", k, got, err)
		}
	}
}

func TestTextBounds(t *testing.T) {
	for _, c := range []struct {
		l []api.Word
		n int
	}{
		{nil, -1}, {nil, 1}, {nil, math.MinInt}, {nil, math.MaxInt}, {[]api.Word{}, 1},
		{[]api.Word{1}, -1}, {[]api.Word{1}, 9}, {[]api.Word{1}, math.MaxInt}, {[]api.Word{1}, math.MinInt},
		{[]api.Word{1, 2, 3}, 25}, {[]api.Word{1, 2, 3}, -8},
		{[]api.Word{1, 2, 3}[:1], 9},
	} {
		if s, err := word.Text(c.l, c.n); s != "" || !same(err, api.ErrBound) {
			t.Errorf("%v, %d: %q, %v", c.l, c.n, s, err)
		}
	}
	for _, l := range [][]api.Word{nil, {}, {7}} {
		if s, err := word.Text(l, 0); s != "" || err != nil {
			t.Errorf("%v: %q, %v", l, s, err)
		}
	}
}

// TestUnlikeTexts: texts of one length are unlike words (P73).
func TestUnlikeTexts(t *testing.T) {
	seen := map[[2]api.Word]string{}
	for place := range 16 {
		for b := range 256 {
			s := []byte("0123456789abcdef")
			s[place] = byte(b)
			l := word.Bytes(string(s))
			key := [2]api.Word{l[0], l[1]}
			if other, ok := seen[key]; ok && other != string(s) {
				t.Fatalf("%q and %q: %x", s, other, l)
			}
			seen[key] = string(s)
		}
	}
}

func TestOnlyReads(t *testing.T) {
	all := []api.Word{0x6867666564636261, 0x69, 0x6a, 0x6b}
	kept := slices.Clone(all)
	s, err := word.Text(all[:2], 10)
	if s != "abcdefghi\x00" || err != nil || !slices.Equal(all, kept) {
		t.Errorf("%q, %v, %x", s, err, all)
	}
	all[0] = 0
	if s != "abcdefghi\x00" {
		t.Errorf("%q", s)
	}
}

func TestAnswersAreTheirOwn(t *testing.T) {
	const s = "abcdefghijkl"
	l, m := word.Bytes(s), word.Bytes(s)
	l[0], l[1] = 0, 0
	_ = append(l, 7)
	if !slices.Equal(m, laid(s)) || !slices.Equal(word.Bytes(s), laid(s)) {
		t.Errorf("%x", m)
	}
}

func TestSideBySide(t *testing.T) {
	s := strings.Repeat("side by side, ", 20)
	l := word.Bytes(s)
	var wait sync.WaitGroup
	for i := range 16 {
		wait.Go(func() {
			for n := range len(s) {
				if got, err := word.Text(l, n); got != s[:n] || err != nil {
					t.Errorf("%d, %d: %q, %v", i, n, got, err)
				}
				if !slices.Equal(word.Bytes(s[:n]), laid(s[:n])) {
					t.Errorf("%d, %d", i, n)
				}
			}
		})
	}
	wait.Wait()
}
