package tests

import (
	"math"
	"slices"
	"strings"
	"testing"
	"unsafe"

	"loop.example/g00191/impl"
)

// The edges of chapter 1, each with the bytes that tell it.
var edgeRunes = []struct {
	n int
	s string
}{
	{0, "\x00"},
	{97, "a"},
	{127, "\x7f"},
	{128, "\xc2\x80"},
	{233, "\xc3\xa9"},
	{2047, "\xdf\xbf"},
	{2048, "\xe0\xa0\x80"},
	{26085, "\xe6\x97\xa5"},
	{55295, "\xed\x9f\xbf"},
	{57344, "\xee\x80\x80"},
	{65533, "\xef\xbf\xbd"},
	{65535, "\xef\xbf\xbf"},
	{65536, "\xf0\x90\x80\x80"},
	{128512, "\xf0\x9f\x98\x80"},
	{1114111, "\xf4\x8f\xbf\xbf"},
}

var noTexts = []struct {
	why string
	s   string
}{
	{"a byte that only goes on", "\x80"},
	{"the last byte that only goes on", "\xbf"},
	{"192 begins nothing", "\xc0\x80"},
	{"193 begins nothing", "\xc1\xbf"},
	{"245 begins nothing", "\xf5\x80\x80\x80"},
	{"254 begins nothing", "\xfe"},
	{"255 begins nothing", "\xff"},
	{"0 in three bytes", "\xe0\x80\x80"},
	{"2047 in three bytes", "\xe0\x9f\xbf"},
	{"0 in four bytes", "\xf0\x80\x80\x80"},
	{"65535 in four bytes", "\xf0\x8f\xbf\xbf"},
	{"55296", "\xed\xa0\x80"},
	{"57343", "\xed\xbf\xbf"},
	{"55296 and 56320 for one", "\xed\xa0\x80\xed\xb0\x80"},
	{"1114112", "\xf4\x90\x80\x80"},
	{"two cut off", "\xc3"},
	{"three cut off behind one", "\xe6"},
	{"three cut off behind two", "\xe6\x97"},
	{"four cut off behind one", "\xf0"},
	{"four cut off behind two", "\xf0\x9f"},
	{"four cut off behind three", "\xf0\x9f\x98"},
	{"two, then a byte below 128", "\xc3a"},
	{"two, then a byte above 191", "\xc3\xc0"},
	{"three, then another begins", "\xe6\x97\xc3\xa9"},
	{"one byte too many", "\xc3\xa9\xa9"},
}

var noRunes = []int{
	-1, 55296, 56000, 57343, 1114112,
	1<<32 + 97, -1<<32 + 97, math.MinInt, math.MaxInt, math.MaxInt32, math.MinInt32,
}

// decode is chapter 1's Runes, byte by byte as the document tells it.
func decode(s string) ([]int, bool) {
	var l []int
	for i := 0; i < len(s); {
		c := int(s[i])
		more, least, n := 0, 0, c
		switch {
		case c < 128:
		case 194 <= c && c <= 223:
			more, least, n = 1, 128, c%32
		case 224 <= c && c <= 239:
			more, least, n = 2, 2048, c%16
		case 240 <= c && c <= 244:
			more, least, n = 3, 65536, c%8
		default:
			return nil, false
		}
		if i+more >= len(s) {
			return nil, false
		}
		for _, d := range []byte(s[i+1 : i+1+more]) {
			if d < 128 || d > 191 {
				return nil, false
			}
			n = n*64 + int(d)%64
		}
		if n < least || 55296 <= n && n <= 57343 || n > 1114111 {
			return nil, false
		}
		l = append(l, n)
		i += 1 + more
	}
	return l, true
}

// eachText calls do with every text of at most most of these bytes.
func eachText(of string, most int, do func(s string)) {
	var grow func(s string)
	grow = func(s string) {
		do(s)
		if len(s) < most {
			for _, c := range []byte(of) {
				grow(s + string([]byte{c}))
			}
		}
	}
	grow("")
}

func allBytes() string {
	b := make([]byte, 256)
	for i := range b {
		b[i] = byte(i)
	}
	return string(b)
}

func checkRunes(t *testing.T, s string) {
	t.Helper()
	want, wantOk := decode(s)
	got, ok := impl.Runes(s)
	if ok != wantOk || !slices.Equal(got, want) {
		t.Fatalf("Runes(%x) = %v, %v; want %v, %v", s, got, ok, want, wantOk)
	}
	if !ok {
		return
	}
	if back, ok := impl.PutRunes(got); !ok || back != s {
		t.Fatalf("PutRunes(%v) = %x, %v; want %x", got, back, ok, s)
	}
}

func TestRunesAtEdges(t *testing.T) {
	var all []int
	text := ""
	for _, e := range edgeRunes {
		if l, ok := impl.Runes(e.s); !ok || !slices.Equal(l, []int{e.n}) {
			t.Errorf("Runes(%x) = %v, %v; want %d", e.s, l, ok, e.n)
		}
		if s, ok := impl.PutRunes([]int{e.n}); !ok || s != e.s {
			t.Errorf("PutRunes(%d) = %x, %v; want %x", e.n, s, ok, e.s)
		}
		all = append(all, e.n)
		text += e.s
	}
	if l, ok := impl.Runes(text); !ok || !slices.Equal(l, all) {
		t.Errorf("Runes of all edges = %v, %v", l, ok)
	}
	if s, ok := impl.PutRunes(all); !ok || s != text {
		t.Errorf("PutRunes of all edges = %x, %v", s, ok)
	}
}

func TestRunesOfNothing(t *testing.T) {
	if l, ok := impl.Runes(""); !ok || len(l) != 0 {
		t.Error("Runes", l, ok)
	}
	for _, l := range [][]int{nil, {}} {
		if s, ok := impl.PutRunes(l); !ok || s != "" {
			t.Errorf("PutRunes(%v) = %x, %v", l, s, ok)
		}
	}
}

func TestRunesOfNoText(t *testing.T) {
	for _, e := range noTexts {
		for _, s := range []string{e.s, "a" + e.s, "é日" + e.s, e.s + "a", "\uFFFD" + e.s + "\uFFFD"} {
			if l, ok := impl.Runes(s); ok || len(l) != 0 {
				t.Errorf("%s: Runes(%x) = %v, %v", e.why, s, l, ok)
			}
		}
	}
}

func TestPutRunesOfNoRunes(t *testing.T) {
	for _, n := range noRunes {
		for _, l := range [][]int{{n}, {97, n}, {n, 97}, {233, n, 26085}} {
			if s, ok := impl.PutRunes(l); ok || s != "" {
				t.Errorf("PutRunes(%v) = %x, %v", l, s, ok)
			}
		}
	}
}

func TestEveryRuneComesBack(t *testing.T) {
	for n := -10; n <= 1114111+10; n++ {
		isRune := 0 <= n && n <= 1114111 && (n < 55296 || n > 57343)
		s, ok := impl.PutRunes([]int{n})
		if ok != isRune {
			t.Fatalf("PutRunes(%d) = %x, %v", n, s, ok)
		}
		if !ok {
			continue
		}
		if l, ok := impl.Runes(s); !ok || len(l) != 1 || l[0] != n {
			t.Fatalf("Runes(PutRunes(%d)) = %v, %v", n, l, ok)
		}
	}
}

func TestRunesOfEveryShortText(t *testing.T) {
	eachText(allBytes(), 2, func(s string) { checkRunes(t, s) })
	const edges = "\x00a\x7f\x80\x8f\x90\x9f\xa0\xbf\xc0\xc1\xc2\xdf\xe0\xe1\xec\xed\xee\xef\xf0\xf1\xf3\xf4\xf5\xff"
	eachText(edges, 4, func(s string) { checkRunes(t, s) })
}

func TestLowerOfEveryByte(t *testing.T) {
	for c := range 256 {
		want := byte(c)
		if strings.IndexByte("ABCDEFGHIJKLMNOPQRSTUVWXYZ", want) >= 0 {
			want += 32
		}
		s := "x" + string([]byte{byte(c)}) + "y"
		if got := impl.Lower(s); got != "x"+string([]byte{want})+"y" {
			t.Errorf("Lower(%x) = %x", s, got)
		}
	}
}

func TestLower(t *testing.T) {
	for s, want := range map[string]string{
		"":                 "",
		"Wayfarer/2.0":     "wayfarer/2.0",
		"@AZ[`az{":         "@az[`az{",
		"ÉCOLE Ж İ \u212a": "École Ж İ \u212a",
		"A\xff\xc3B\x80Z":  "a\xff\xc3b\x80z",
	} {
		if got := impl.Lower(s); got != want {
			t.Errorf("Lower(%q) = %q; want %q", s, got, want)
		}
	}
}

func TestTrimOfEveryByte(t *testing.T) {
	for c := range 256 {
		s := string([]byte{byte(c)})
		blank := c == 32 || c == 9 || c == 10 || c == 13
		want := s + "x" + s + "x" + s
		if blank {
			want = "x" + s + "x"
		}
		if got := impl.Trim(s + "x" + s + "x" + s); got != want {
			t.Errorf("Trim by %d = %x", c, got)
		}
		if got := impl.Trim(s+s) == ""; got != blank {
			t.Errorf("Trim of byte %d alone: %v", c, got)
		}
	}
}

func TestTrim(t *testing.T) {
	for s, want := range map[string]string{
		"":                        "",
		" ":                       "",
		"\r\n\t \t\n\r":           "",
		"a":                       "a",
		" \t\r\na b\t\nc \n":      "a b\t\nc",
		"a ":                      "a",
		"\na":                     "a",
		"\u00a0a\u2003":           "\u00a0a\u2003",
		"\v a \f":                 "\v a \f",
		" \xff \x80 ":             "\xff \x80",
		"\x00 \x00":               "\x00 \x00",
		" \xc2\x85\xe2\x80\xa8\n": "\xc2\x85\xe2\x80\xa8",
	} {
		if got := impl.Trim(s); got != want {
			t.Errorf("Trim(%q) = %q; want %q", s, got, want)
		}
	}
}

func TestLowerAndTrimmedStaySo(t *testing.T) {
	eachText(" \t\n\r\v@AMZ[az\xa0\xc3\xff", 4, func(s string) {
		if l := impl.Lower(s); impl.Lower(l) != l || len(l) != len(s) {
			t.Fatalf("Lower(%q) = %q, then %q", s, l, impl.Lower(l))
		}
		if c := impl.Trim(s); impl.Trim(c) != c || !strings.Contains(s, c) {
			t.Fatalf("Trim(%q) = %q, then %q", s, c, impl.Trim(c))
		}
	})
}

func TestAscii(t *testing.T) {
	if !impl.Ascii("") {
		t.Error("an empty text")
	}
	for c := range 256 {
		b := string([]byte{byte(c)})
		for _, s := range []string{b, b + "ab", "a" + b + "b", "ab" + b} {
			if impl.Ascii(s) != (c < 128) {
				t.Errorf("Ascii(%x) = %v", s, impl.Ascii(s))
			}
		}
	}
}

func TestFields(t *testing.T) {
	for _, e := range []struct {
		s    string
		by   byte
		want []string
	}{
		{"", ',', []string{""}},
		{"abc", ',', []string{"abc"}},
		{",", ',', []string{"", ""}},
		{",,", ',', []string{"", "", ""}},
		{"a,b", ',', []string{"a", "b"}},
		{",a,,b,", ',', []string{"", "a", "", "b", ""}},
		{"www.example.com", '.', []string{"www", "example", "com"}},
		{"a b\nc", '\n', []string{"a b", "c"}},
		{"a\x00b", 0, []string{"a", "b"}},
		{"é", 0xc3, []string{"", "\xa9"}},
		{"é", 0xa9, []string{"\xc3", ""}},
		{"é", 0xe9, []string{"é"}},
		{"a\xffb\xff", 0xff, []string{"a", "b", ""}},
	} {
		if got := impl.Fields(e.s, e.by); !slices.Equal(got, e.want) {
			t.Errorf("Fields(%q, %d) = %q; want %q", e.s, e.by, got, e.want)
		}
	}
}

func TestFieldsJoinToTheirText(t *testing.T) {
	for _, by := range []byte{'a', ',', 0, 0x80, 0xc3, 0xff} {
		cut := string([]byte{by})
		eachText("a,\x00\x80\xc3\xff", 5, func(s string) {
			l := impl.Fields(s, by)
			if len(l) != strings.Count(s, cut)+1 || strings.Join(l, cut) != s {
				t.Fatalf("Fields(%q, %d) = %q", s, by, l)
			}
		})
	}
}

func TestRunesAreNewMemory(t *testing.T) {
	const text = "aé日"
	a, _ := impl.Runes(text)
	a[0] = 7
	if b, _ := impl.Runes(text); !slices.Equal(b, []int{97, 233, 26085}) {
		t.Error("a second answer shares the first one's memory", b)
	}
	f := impl.Fields("a,b", ',')
	f[0] = "x"
	if g := impl.Fields("a,b", ','); !slices.Equal(g, []string{"a", "b"}) {
		t.Error("a second answer shares the first one's memory", g)
	}
}

func TestPutRunesLeavesItsList(t *testing.T) {
	room := []int{97, 233, 55296, -1}
	if s, ok := impl.PutRunes(room[:2]); !ok || s != "aé" {
		t.Errorf("behind the list's length something is read: %q, %v", s, ok)
	}
	if !slices.Equal(room, []int{97, 233, 55296, -1}) {
		t.Error("written into the argument", room)
	}
}

func TestTextsAreNewMemory(t *testing.T) {
	s := " " + strings.Repeat("abc,", 20)
	answers := []string{impl.Lower(s), impl.Trim(s), impl.Trim(s[1:])}
	answers = append(answers, impl.Fields(s, ',')...)
	answers = append(answers, impl.Fields(s, ';')...)
	from := uintptr(unsafe.Pointer(unsafe.StringData(s)))
	for _, a := range answers {
		at := uintptr(unsafe.Pointer(unsafe.StringData(a)))
		if a != "" && from <= at && at < from+uintptr(len(s)) {
			t.Errorf("%q lies in its argument's memory", a)
		}
	}
}
