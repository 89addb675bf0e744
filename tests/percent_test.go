package tests

import (
	"math"
	"strings"
	"testing"
	"unsafe"

	"loop.example/g00191/impl"
)

// What chapter 2 keeps, set by set, written out byte by byte.
const (
	plainBytes = "abcdefghijklmnopqrstuvwxyzABCDEFGHIJKLMNOPQRSTUVWXYZ0123456789-._~"
	keptInAll  = plainBytes + "!$&'()*+,;=:@"
)

var (
	rightSets = []int{impl.InPath, impl.InQuery, impl.InSegment}
	wrongSets = []int{0, 4, -1, 257, 1<<32 + 1, math.MinInt, math.MaxInt}
	allSets   = append(append([]int{}, rightSets...), wrongSets...)
)

// wantKept are the bytes of a set as the document tells them.
func wantKept(set int) string {
	switch set {
	case impl.InPath:
		return keptInAll + "/"
	case impl.InQuery:
		return keptInAll + "/?"
	case impl.InSegment:
		return keptInAll
	}
	return ""
}

func oneByte(c int) string { return string([]byte{byte(c)}) }

// wantPercent is % and the two hex digits of a byte.
func wantPercent(c int, digits string) string {
	return "%" + digits[c/16:c/16+1] + digits[c%16:c%16+1]
}

const (
	smallDigits = "0123456789abcdef"
	greatDigits = "0123456789ABCDEF"
)

func wantDigit(c byte) int {
	return max(strings.IndexByte(smallDigits, c), strings.IndexByte(greatDigits, c))
}

// percentPiece cuts the first piece off a text: a percent with its byte, or
// one byte and -1.
func percentPiece(s string) (piece string, c int) {
	if len(s) >= 3 && s[0] == '%' {
		if high, low := wantDigit(s[1]), wantDigit(s[2]); high >= 0 && low >= 0 {
			return s[:3], high*16 + low
		}
	}
	return s[:1], -1
}

// checkPercents holds all of chapter 2 against a telling of its own, piece by
// piece, and against the promise.
func checkPercents(t *testing.T, s string, set int) {
	t.Helper()
	kept := wantKept(set)
	isKept := func(piece string) bool { return strings.Contains(kept, piece) }
	percent, unpercent, plainly, ok := "", "", "", kept != ""
	for _, c := range []byte(s) {
		if isKept(oneByte(int(c))) {
			percent += oneByte(int(c))
		} else {
			percent += wantPercent(int(c), greatDigits)
		}
	}
	for rest := s; rest != ""; {
		piece, c := percentPiece(rest)
		rest = rest[len(piece):]
		switch {
		case c >= 0 && strings.Contains(plainBytes, oneByte(c)):
			unpercent += oneByte(c)
			plainly += oneByte(c)
		case c >= 0:
			unpercent += oneByte(c)
			plainly += wantPercent(c, greatDigits)
		case isKept(piece):
			unpercent += piece
			plainly += piece
		default:
			ok = false
			unpercent += piece
			plainly += wantPercent(int(piece[0]), greatDigits)
		}
	}
	if got := impl.Percent(s, set); got != percent {
		t.Fatalf("Percent(%q, %d) = %q; want %q", s, set, got, percent)
	}
	if got := impl.Unpercent(s); got != unpercent {
		t.Fatalf("Unpercent(%q) = %q; want %q", s, got, unpercent)
	}
	if got := impl.PercentOk(s, set); got != ok {
		t.Fatalf("PercentOk(%q, %d) = %v", s, set, got)
	}
	if got := impl.Plainly(s, set); got != plainly {
		t.Fatalf("Plainly(%q, %d) = %q; want %q", s, set, got, plainly)
	}
	checkPercentPromise(t, s, set)
}

func checkPercentPromise(t *testing.T, s string, set int) {
	t.Helper()
	percent, plain := impl.Percent(s, set), impl.Plainly(s, set)
	if back := impl.Unpercent(percent); back != s {
		t.Fatalf("Unpercent(%q) = %q; want %q", percent, back, s)
	}
	if impl.Unpercent(plain) != impl.Unpercent(s) {
		t.Fatalf("Plainly(%q, %d) = %q means another thing", s, set, plain)
	}
	right := wantKept(set) != ""
	if impl.PercentOk(percent, set) != right || impl.PercentOk(plain, set) != right {
		t.Fatalf("PercentOk of %q or %q, %d", percent, plain, set)
	}
	if again := impl.Plainly(plain, set); right && again != plain {
		t.Fatalf("Plainly(%q, %d) = %q, then %q", s, set, plain, again)
	}
}

func TestPercentSetsHaveTheirNumbers(t *testing.T) {
	if impl.InPath != 1 || impl.InQuery != 2 || impl.InSegment != 3 {
		t.Error(impl.InPath, impl.InQuery, impl.InSegment)
	}
}

func TestKeepsEveryByteInEverySet(t *testing.T) {
	for _, set := range allSets {
		for c := range 256 {
			if want := strings.Contains(wantKept(set), oneByte(c)); impl.Keeps(set, c) != want {
				t.Errorf("Keeps(%d, %d) = %v", set, c, !want)
			}
		}
	}
}

func TestKeepsNoByte(t *testing.T) {
	for _, set := range allSets {
		for _, c := range []int{-1, 256, 256 + 'a', 'a' - 256, 128 + 'a', 1<<32 + 'a', 'a' - 1<<32, math.MinInt, math.MaxInt, math.MinInt + 'a'} {
			if impl.Keeps(set, c) {
				t.Errorf("Keeps(%d, %d)", set, c)
			}
		}
	}
}

func TestPercentsOfEveryByteInEverySet(t *testing.T) {
	for _, set := range allSets {
		for c := range 256 {
			checkPercents(t, oneByte(c), set)
			checkPercents(t, "a"+oneByte(c)+"/", set)
		}
		checkPercents(t, allBytes(), set)
	}
}

func TestPercentsOfEveryPercent(t *testing.T) {
	for _, set := range allSets {
		for c := range 256 {
			for _, digits := range []string{smallDigits, greatDigits} {
				p := wantPercent(c, digits)
				checkPercents(t, p, set)
				checkPercents(t, "%"+p+"4", set)
				checkPercents(t, p+p, set)
			}
		}
	}
}

func TestPercentsOfEveryTwoBytesBehindOne(t *testing.T) {
	for a := range 256 {
		for b := range 256 {
			checkPercents(t, "%"+oneByte(a)+oneByte(b), impl.InQuery)
		}
	}
}

func TestPercentsOfEveryShortText(t *testing.T) {
	for _, set := range append([]int{0}, rightSets...) {
		eachText("%4aFGz/?~ \xc3", 5, func(s string) { checkPercents(t, s, set) })
		eachText("%25fE", 7, func(s string) { checkPercents(t, s, set) })
	}
}

func TestPercents(t *testing.T) {
	for _, e := range []struct {
		s                string
		set              int
		percent, plainly string
		ok               bool
	}{
		{"", impl.InPath, "", "", true},
		{"", impl.InQuery, "", "", true},
		{"", impl.InSegment, "", "", true},
		{"", 0, "", "", false},
		{"", 4, "", "", false},
		{"", -1, "", "", false},
		{"/a/b?c=d", impl.InPath, "/a/b%3Fc=d", "/a/b%3Fc=d", false},
		{"/a/b?c=d", impl.InQuery, "/a/b?c=d", "/a/b?c=d", true},
		{"/a/b?c=d", impl.InSegment, "%2Fa%2Fb%3Fc=d", "%2Fa%2Fb%3Fc=d", false},
		{"%2f%3f", impl.InPath, "%252f%253f", "%2F%3F", true},
		{"%2f%3f", impl.InQuery, "%252f%253f", "%2F%3F", true},
		{"%2F%3F", impl.InSegment, "%252F%253F", "%2F%3F", true},
		{"%61%5A%39%2d%2E%5f%7e", impl.InPath, "%2561%255A%2539%252d%252E%255f%257e", "aZ9-._~", true},
		{"%3a%40%21%2B", impl.InPath, "%253a%2540%2521%252B", "%3A%40%21%2B", true},
		{"%", impl.InPath, "%25", "%25", false},
		{"%4", impl.InPath, "%254", "%254", false},
		{"a%4", impl.InPath, "a%254", "a%254", false},
		{"%4g", impl.InPath, "%254g", "%254g", false},
		{"%g4", impl.InPath, "%25g4", "%25g4", false},
		{"%%41", impl.InPath, "%25%2541", "%25A", false},
		{"%25%34%31", impl.InPath, "%2525%2534%2531", "%2541", true},
		{"%2541", impl.InPath, "%252541", "%2541", true},
		{"é", impl.InQuery, "%C3%A9", "%C3%A9", false},
		{"\xff\x80", impl.InQuery, "%FF%80", "%FF%80", false},
		{"a#b [c]", impl.InQuery, "a%23b%20%5Bc%5D", "a%23b%20%5Bc%5D", false},
		{"a/", 0, "%61%2F", "%61%2F", false},
		{"%61%2f", 4, "%25%36%31%25%32%66", "a%2F", false},
	} {
		if got := impl.Percent(e.s, e.set); got != e.percent {
			t.Errorf("Percent(%q, %d) = %q; want %q", e.s, e.set, got, e.percent)
		}
		if got := impl.Plainly(e.s, e.set); got != e.plainly {
			t.Errorf("Plainly(%q, %d) = %q; want %q", e.s, e.set, got, e.plainly)
		}
		if got := impl.PercentOk(e.s, e.set); got != e.ok {
			t.Errorf("PercentOk(%q, %d) = %v", e.s, e.set, got)
		}
		checkPercents(t, e.s, e.set)
	}
}

func TestUnpercent(t *testing.T) {
	for s, want := range map[string]string{
		"":                   "",
		"abc":                "abc",
		"%61%62":             "ab",
		"%2541":              "%41",
		"%25%34%31":          "%41",
		"%c3%A9":             "é",
		"%00%ff":             "\x00\xff",
		"%":                  "%",
		"%%":                 "%%",
		"%%41":               "%A",
		"%4":                 "%4",
		"%4%41":              "%4A",
		"%4g%g4":             "%4g%g4",
		"a%":                 "a%",
		"+":                  "+",
		"\xff%ff\xc3":        "\xff\xff\xc3",
		"%\xff\xff":          "%\xff\xff",
		"%\u0664\u0661":      "%\u0664\u0661",
		"%@0%0@%`0%/0%:0%G0": "%@0%0@%`0%/0%:0%G0",
	} {
		if got := impl.Unpercent(s); got != want {
			t.Errorf("Unpercent(%q) = %q; want %q", s, got, want)
		}
	}
}

func TestPercentsAreNewMemory(t *testing.T) {
	s := strings.Repeat("abc", 20)
	from := uintptr(unsafe.Pointer(unsafe.StringData(s)))
	for _, a := range []string{impl.Percent(s, impl.InPath), impl.Unpercent(s), impl.Plainly(s, impl.InPath)} {
		at := uintptr(unsafe.Pointer(unsafe.StringData(a)))
		if a != s || from <= at && at < from+uintptr(len(s)) {
			t.Errorf("%q lies in its argument's memory, or is another text", a)
		}
	}
}
