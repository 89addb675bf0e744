package impl

import (
	"strings"
	"unicode/utf8"
)

const (
	blanks        = " \t\n\r"
	lastRune      = 1114111
	firstHalfRune = 55296
	lastHalfRune  = 57343
)

// Lower goes by bytes, so that what is no text of runes stays as it is.
func Lower(s string) string {
	b := []byte(s)
	for i, c := range b {
		if 'A' <= c && c <= 'Z' {
			b[i] = c - 'A' + 'a'
		}
	}
	return string(b)
}

// Trim hands out a copy: an answer shares no memory with an argument.
func Trim(s string) string {
	return strings.Clone(strings.Trim(s, blanks))
}

// Runes asks for validity first: a range gives the same rune for a byte that
// belongs to none and for a replacement rune that was written.
func Runes(s string) ([]int, bool) {
	if !utf8.ValidString(s) {
		return []int{}, false
	}
	l := make([]int, 0, utf8.RuneCountInString(s))
	for _, r := range s {
		l = append(l, int(r))
	}
	return l, true
}

func PutRunes(l []int) (string, bool) {
	b := make([]byte, 0, len(l))
	for _, n := range l {
		if !isRune(n) {
			return "", false
		}
		b = utf8.AppendRune(b, rune(n))
	}
	return string(b), true
}

// isRune takes the whole int: one that is narrowed first could wrap round to
// a rune.
func isRune(n int) bool {
	if n < 0 || n > lastRune {
		return false
	}
	return n < firstHalfRune || n > lastHalfRune
}

func Ascii(s string) bool {
	for i := range len(s) {
		if s[i] >= utf8.RuneSelf {
			return false
		}
	}
	return true
}

// Fields goes by bytes: by may be a byte in the midst of a rune.
func Fields(s string, by byte) []string {
	l := []string{}
	begin := 0
	for i := range len(s) {
		if s[i] == by {
			l = append(l, strings.Clone(s[begin:i]))
			begin = i + 1
		}
	}
	return append(l, strings.Clone(s[begin:]))
}
