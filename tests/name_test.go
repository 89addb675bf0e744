package tests

import (
	"math/rand"
	"slices"
	"strings"
	"testing"
	"unsafe"

	"loop.example/g00191/impl"
)

const labelBytes = "abcdefghijklmnopqrstuvwxyz0123456789-"

var (
	longest    = strings.Repeat("a", 63)
	tooLong    = strings.Repeat("a", 64)
	threeLong  = longest + "." + longest + "." + longest
	mostName   = threeLong + "." + strings.Repeat("b", 61)
	tooMuch    = threeLong + "." + strings.Repeat("b", 62)
	manyLabels = strings.Repeat("a.", 126) + "a"
)

// Labels that are right: what is given, ToAscii of it, and ToUnicode of that.
var rightLabels = []struct {
	why, s, ascii, unicode string
}{
	{"one byte", "a", "a", "a"},
	{"one digit", "7", "7", "7"},
	{"letters, digits, a hyphen", "a-1", "a-1", "a-1"},
	{"two hyphens in the midst", "a--b", "a--b", "a--b"},
	{"hyphens where a coded one has them", "ab--c", "ab--c", "ab--c"},
	{"great letters", "EXAMPLE", "example", "example"},
	{"the first and the last letters", "AZaz09", "azaz09", "azaz09"},
	{"MaxLabel bytes", longest, longest, longest},
	{"MaxLabel bytes, great", strings.ToUpper(longest), longest, longest},
	{"begins nearly as a coded one", "xn-a", "xn-a", "xn-a"},
	{"begins nearly as a coded one, too", "xn", "xn", "xn"},
	{"the beginning of a coded one in the midst", "axn--b", "axn--b", "axn--b"},
	{"a rune from 128 on", "ü", "xn--tda", "ü"},
	{"runes from 128 on and below", "münchen", "xn--mnchen-3ya", "münchen"},
	{"great letters beside a rune", "MÜnchen", "xn--mnchen-psa", "mÜnchen"},
	{"a great rune stays as it is", "É", "xn--dca", "É"},
	{"runes of three bytes", "日本語", "xn--wgv71a119e", "日本語"},
	{"a rune of four bytes", "😀", "xn--e28h", "😀"},
	{"the first rune from 128 on", "\u0080", "xn--a", "\u0080"},
	{"the last rune", "\U0010ffff", "xn--dn32g", "\U0010ffff"},
	{"a hyphen ahead of a rune", "-é", "xn----bga", "-é"},
	{"a hyphen behind a rune", "é-", "xn----9fa", "é-"},
	{"a dot of another kind", "a。b", "xn--ab-r13a", "a。b"},
	{"coded already", "xn--tda", "xn--tda", "ü"},
	{"coded already, in great letters", "XN--TDA", "xn--tda", "ü"},
	{"coded already, one great letter ahead", "Xn--tda", "xn--tda", "ü"},
	{"coded already, a great letter among those below 128", "xn--Bcher-kva", "xn--bcher-kva", "bücher"},
	{"coded already, a great letter in a number", "xn--bcher-kvA", "xn--bcher-kva", "bücher"},
	{"coded already, a hyphen ahead of the runes", "xn----bga", "xn----bga", "-é"},
	{"begins as a coded one, but has a rune", "xn--ü", "xn--xn---3ra", "xn--ü"},
	{"that, coded", "xn--xn---3ra", "xn--xn---3ra", "xn--ü"},
	{"MaxLabel bytes when coded", strings.Repeat("\u0080", 59), "xn--" + strings.Repeat("a", 59), strings.Repeat("\u0080", 59)},
	{"MaxLabel bytes, coded already", "xn--" + strings.Repeat("a", 59), "xn--" + strings.Repeat("a", 59), strings.Repeat("\u0080", 59)},
}

// Labels that are refused, by ToAscii, by ToUnicode, and as a name.
var wrongLabels = []struct {
	why, s string
}{
	{"no bytes", ""},
	{"one more than MaxLabel", tooLong},
	{"one more than MaxLabel, great", strings.ToUpper(tooLong)},
	{"one more than MaxLabel when coded", strings.Repeat("\u0080", 60)},
	{"one more than MaxLabel, coded already", "xn--" + strings.Repeat("a", 60)},
	{"61 runes", strings.Repeat("\u0080", 61)},
	{"61 runes, one of them from 128 on", strings.Repeat("a", 60) + "ü"},
	{"very many runes", strings.Repeat("ü", 10000)},
	{"very many bytes", strings.Repeat("a", 1<<20)},
	{"a hyphen alone", "-"},
	{"two hyphens alone", "--"},
	{"a hyphen at the beginning", "-a"},
	{"a hyphen at the end", "a-"},
	{"a line below", "a_b"},
	{"a blank", "a b"},
	{"a blank ahead", " a"},
	{"a byte 10 behind", "a\n"},
	{"a percent", "%61"},
	{"a byte 0", "a\x00"},
	{"a byte 127", "a\x7f"},
	{"a blank beside a rune", "ü b"},
	{"a line below beside a rune", "ü_"},
	{"a byte 0 beside a rune", "\x00ü"},
	{"no rune", "\xff"},
	{"a rune cut off", "a\xc3"},
	{"a rune in too many bytes", "\xc1\xa1"},
	{"half a rune", "\xed\xa0\x80"},
	{"one past the last rune", "\xf4\x90\x80\x80"},
	{"no rune behind one that is coded", "xn--tda\xff"},
	{"coded, of nothing", "xn--"},
	{"coded, of nothing, in great letters", "XN--"},
	{"coded, of a hyphen", "xn---"},
	{"coded, no code", "xn--99999999"},
	{"coded, one past the last rune", "xn--en32g"},
	{"coded, half a rune", "xn--" + wantPuny([]int{55296})},
	{"coded, ends in the midst of a number", "xn--t"},
	{"coded, ends in the midst of a number, too", "xn--bcher-kv"},
	{"coded, of ASCII runes alone", "xn--abc-"},
	{"coded, of great ASCII runes alone", "xn--ABC-"},
	{"coded, of a hyphen alone", "xn----"},
	{"coded, a needless hyphen", "xn---tda"},
	{"coded, a byte that is no digit", "xn--td_"},
}

// Names that are right, and what they are.
var rightNames = []struct {
	why, s, name string
}{
	{"one label", "localhost", "localhost"},
	{"two labels", "example.com", "example.com"},
	{"many labels", "a.b.c.d.e.f", "a.b.c.d.e.f"},
	{"great letters", "WWW.Example.COM", "www.example.com"},
	{"digits", "1.2.3.4", "1.2.3.4"},
	{"runes from 128 on", "bücher.日本語.de", "xn--bcher-kva.xn--wgv71a119e.de"},
	{"coded already", "xn--bcher-kva.de", "xn--bcher-kva.de"},
	{"coded already, in great letters", "XN--BCHER-KVA.DE", "xn--bcher-kva.de"},
	{"a dot at the end", "example.com.", "example.com"},
	{"a dot behind one label", "a.", "a"},
	{"a dot behind runes", "münchen.de.", "xn--mnchen-3ya.de"},
	{"MaxName bytes", mostName, mostName},
	{"MaxName bytes and a dot", mostName + ".", mostName},
	{"MaxName bytes, great", strings.ToUpper(mostName), mostName},
	{"MaxName bytes of short labels", manyLabels, manyLabels},
	{"MaxName bytes when coded", threeLong + "." + strings.Repeat("\u0080", 57), threeLong + ".xn--" + strings.Repeat("a", 57)},
	{
		"longer when it is given",
		strings.Repeat(strings.Repeat("\U0010ffff", 50)+".", 4),
		strings.Repeat("xn--dn32g"+strings.Repeat("a", 49)+".", 3) + "xn--dn32g" + strings.Repeat("a", 49),
	},
}

var wrongNames = []struct {
	why, s string
}{
	{"an empty text", ""},
	{"a dot alone", "."},
	{"two dots", ".."},
	{"three dots", "..."},
	{"a dot ahead", ".a"},
	{"a dot ahead and one at the end", ".a."},
	{"two dots at the end", "a.."},
	{"three dots at the end", "a..."},
	{"an empty label within", "a..b"},
	{"an empty label within, a dot at the end", "a..b."},
	{"one more than MaxName", tooMuch},
	{"one more than MaxName, and a dot", tooMuch + "."},
	{"one more than MaxName, of short labels", "a" + manyLabels},
	{"two more than MaxName, of short labels", manyLabels + ".a"},
	{"one more than MaxName when coded", threeLong + "." + strings.Repeat("\u0080", 58)},
	{"very many labels", strings.Repeat("a.", 1<<18)},
	{"very many dots", strings.Repeat(".", 1<<18)},
	{"a blank at the end", "example.com "},
	{"a port", "example.com:80"},
	{"a path", "example.com/"},
}

func wantLower(s string) string {
	b := []byte(s)
	for i := range b {
		if at := strings.IndexByte("ABCDEFGHIJKLMNOPQRSTUVWXYZ", b[i]); at >= 0 {
			b[i] = labelBytes[at]
		}
	}
	return string(b)
}

func wantAllBelow(s string, end byte) bool {
	for _, c := range []byte(s) {
		if c >= end {
			return false
		}
	}
	return true
}

func wantLabelOk(s string) bool {
	return 1 <= len(s) && len(s) <= 63 && strings.Trim(s, labelBytes) == "" && strings.Trim(s, "-") == s
}

// wantCodeOk asks for each of chapter 4's conditions on what is coded.
func wantCodeOk(rest string) bool {
	l, ok := wantRunes(rest)
	if !ok || len(l) == 0 || slices.Max(l) < 128 {
		return false
	}
	for _, r := range l {
		if 'A' <= r && r <= 'Z' {
			return false
		}
	}
	return wantPuny(l) == rest
}

func wantAscii(s string) (string, bool) {
	label := wantLower(s)
	if !wantAllBelow(label, 128) {
		l, ok := decode(label)
		if !ok || len(l) > 60 {
			return "", false
		}
		label = "xn--" + wantPuny(l)
	}
	if !wantLabelOk(label) || strings.HasPrefix(label, "xn--") && !wantCodeOk(label[4:]) {
		return "", false
	}
	return label, true
}

func wantUnicode(s string) (string, bool) {
	if label, ok := wantAscii(s); !ok || label != s {
		return "", false
	}
	if !strings.HasPrefix(s, "xn--") {
		return s, true
	}
	text := ""
	l, _ := wantRunes(s[4:])
	for _, r := range l {
		text += string(rune(r))
	}
	return text, true
}

func wantName(s string) (string, bool) {
	if len(s) > 1 {
		s = strings.TrimSuffix(s, ".")
	}
	name := ""
	for i, label := range strings.Split(s, ".") {
		ascii, ok := wantAscii(label)
		if !ok {
			return "", false
		}
		if i > 0 {
			name += "."
		}
		name += ascii
	}
	if len(name) > 253 {
		return "", false
	}
	return name, true
}

func checkLabel(t *testing.T, s string) {
	t.Helper()
	if got := impl.LabelOk(s); got != wantLabelOk(s) {
		t.Fatalf("LabelOk(%q) = %v", s, got)
	}
	want, wantOk := wantAscii(s)
	label, ok := impl.ToAscii(s)
	if ok != wantOk || label != want {
		t.Fatalf("ToAscii(%q) = %q, %v; want %q, %v", s, label, ok, want, wantOk)
	}
	text, isOne := wantUnicode(s)
	if got, ok := impl.ToUnicode(s); ok != isOne || got != text {
		t.Fatalf("ToUnicode(%q) = %q, %v; want %q, %v", s, got, ok, text, isOne)
	}
	if ok {
		checkLabelStays(t, label)
	}
}

// checkLabelStays asks of a label that ToAscii gave: it is its own, and comes
// back of its runes.
func checkLabelStays(t *testing.T, label string) {
	t.Helper()
	if again, ok := impl.ToAscii(label); !ok || again != label || !impl.LabelOk(label) {
		t.Fatalf("ToAscii(%q) = %q, %v", label, again, ok)
	}
	text, ok := impl.ToUnicode(label)
	if !ok {
		t.Fatalf("ToUnicode(%q) is refused", label)
	}
	if back, ok := impl.ToAscii(text); !ok || back != label {
		t.Fatalf("ToAscii(%q) = %q, %v; want %q", text, back, ok, label)
	}
}

// checkName holds NameOf against a telling of its own, and against the promise.
func checkName(t *testing.T, s string) {
	t.Helper()
	want, wantOk := wantName(s)
	name, ok := impl.NameOf(s)
	if ok != wantOk || name != want {
		t.Fatalf("NameOf(%q) = %q, %v; want %q, %v", s, name, ok, want, wantOk)
	}
	if ok {
		checkNameStays(t, name)
	}
}

func checkNameStays(t *testing.T, name string) {
	t.Helper()
	for _, s := range []string{name, name + ".", strings.ToUpper(name)} {
		if again, ok := impl.NameOf(s); !ok || again != name {
			t.Fatalf("NameOf(%q) = %q, %v; want %q", s, again, ok, name)
		}
	}
}

func checkParts(t *testing.T, s string) {
	t.Helper()
	want := []string{}
	if s != "" {
		want = strings.Split(s, ".")
		slices.Reverse(want)
	}
	if got := impl.Parts(s); !slices.Equal(got, want) {
		t.Fatalf("Parts(%q) = %q; want %q", s, got, want)
	}
}

func TestNameLimitsHaveTheirNumbers(t *testing.T) {
	if impl.MaxLabel != 63 || impl.MaxName != 253 {
		t.Error(impl.MaxLabel, impl.MaxName)
	}
	if len(mostName) != 253 || len(tooMuch) != 254 || len(manyLabels) != 253 {
		t.Error("the tests' own names", len(mostName), len(tooMuch), len(manyLabels))
	}
}

func TestLabelOkOfEveryByte(t *testing.T) {
	for c := range 256 {
		b := oneByte(c)
		within := strings.Contains(labelBytes, b)
		atEnd := within && b != "-"
		for _, x := range []struct {
			s    string
			want bool
		}{{b, atEnd}, {b + "a", atEnd}, {"a" + b, atEnd}, {"a" + b + "a", within}, {"0" + b + b + "z", within}} {
			if got := impl.LabelOk(x.s); got != x.want {
				t.Errorf("LabelOk(%q) = %v", x.s, got)
			}
		}
	}
}

func TestLabelOkOfEveryLength(t *testing.T) {
	for many := range 400 {
		want := 1 <= many && many <= 63
		for _, of := range []string{"a", "z", "0", "9"} {
			if got := impl.LabelOk(strings.Repeat(of, many)); got != want {
				t.Errorf("LabelOk of %d times %s = %v", many, of, got)
			}
		}
	}
	if !impl.LabelOk("a"+strings.Repeat("-", 61)+"a") || impl.LabelOk("a"+strings.Repeat("-", 62)+"a") {
		t.Error("hyphens in the midst")
	}
}

// LabelOk asks for bytes alone: whether a code is right is ToAscii's.
func TestLabelOkOfNoCode(t *testing.T) {
	for _, s := range []string{"xn--99999999", "xn---tda", "xn--t"} {
		if !impl.LabelOk(s) {
			t.Errorf("LabelOk(%q)", s)
		}
	}
}

func TestRightLabels(t *testing.T) {
	for _, x := range rightLabels {
		if got, ok := impl.ToAscii(x.s); !ok || got != x.ascii {
			t.Errorf("%s: ToAscii(%q) = %q, %v; want %q", x.why, x.s, got, ok, x.ascii)
		}
		if got, ok := impl.ToUnicode(x.ascii); !ok || got != x.unicode {
			t.Errorf("%s: ToUnicode(%q) = %q, %v; want %q", x.why, x.ascii, got, ok, x.unicode)
		}
		if got, ok := impl.NameOf(x.s); !ok || got != x.ascii {
			t.Errorf("%s: NameOf(%q) = %q, %v; want %q", x.why, x.s, got, ok, x.ascii)
		}
		checkLabel(t, x.s)
	}
}

func TestToUnicodeOfWhatIsWrittenOtherwise(t *testing.T) {
	for _, x := range rightLabels {
		if x.s == x.ascii {
			continue
		}
		if got, ok := impl.ToUnicode(x.s); ok || got != "" {
			t.Errorf("%s: ToUnicode(%q) = %q, %v", x.why, x.s, got, ok)
		}
	}
}

func TestWrongLabels(t *testing.T) {
	for _, x := range wrongLabels {
		if got, ok := impl.ToAscii(x.s); ok || got != "" {
			t.Errorf("%s: ToAscii = %q, %v", x.why, got, ok)
		}
		if got, ok := impl.ToUnicode(x.s); ok || got != "" {
			t.Errorf("%s: ToUnicode = %q, %v", x.why, got, ok)
		}
		for _, s := range []string{x.s, "a." + x.s + ".b", x.s + ".b", "a." + x.s + ".", "ü." + x.s + ".é"} {
			if got, ok := impl.NameOf(s); ok || got != "" {
				t.Errorf("%s: NameOf = %q, %v", x.why, got, ok)
			}
		}
	}
}

// An empty label at the end of others is the one wrong label that a name may
// have; every other one is refused there, too.
func TestWrongLabelsAtTheEnd(t *testing.T) {
	for _, x := range wrongLabels {
		want, wantOk := "", false
		if x.s == "" {
			want, wantOk = "a", true
		}
		if got, ok := impl.NameOf("a." + x.s); ok != wantOk || got != want {
			t.Errorf("%s: NameOf = %q, %v", x.why, got, ok)
		}
	}
}

func TestToAsciiHasOneDotInNoLabel(t *testing.T) {
	for _, s := range []string{".", "a.", ".a", "a.b", "ü.a", "xn--tda.a"} {
		if got, ok := impl.ToAscii(s); ok || got != "" {
			t.Errorf("ToAscii(%q) = %q, %v", s, got, ok)
		}
		if got, ok := impl.ToUnicode(s); ok || got != "" {
			t.Errorf("ToUnicode(%q) = %q, %v", s, got, ok)
		}
	}
}

func TestRightNames(t *testing.T) {
	for _, x := range rightNames {
		if got, ok := impl.NameOf(x.s); !ok || got != x.name {
			t.Errorf("%s: NameOf(%q) = %q, %v; want %q", x.why, x.s, got, ok, x.name)
		}
		checkName(t, x.s)
	}
}

func TestWrongNames(t *testing.T) {
	for _, x := range wrongNames {
		if got, ok := impl.NameOf(x.s); ok || got != "" {
			t.Errorf("%s: NameOf = %q, %v", x.why, got, ok)
		}
	}
}

func TestNamesOfEveryLength(t *testing.T) {
	for many := 1; many <= 63; many++ {
		for _, behind := range []string{"", ".", ".c", ".ü"} {
			checkName(t, threeLong+"."+strings.Repeat("b", many)+behind)
		}
	}
}

func TestNamesOfEveryByte(t *testing.T) {
	for c := range 256 {
		b := oneByte(c)
		for _, s := range []string{b, b + "a", "a" + b, "a" + b + "a", "ü" + b, b + "ü", "xn--tda" + b, "xn--" + b + "tda", "a." + b + ".b", b + b} {
			checkLabel(t, s)
			checkName(t, s)
			checkParts(t, s)
		}
	}
}

func TestNamesOfEveryRune(t *testing.T) {
	for r := 128; r <= 1114111; r++ {
		if r >= 3000 && r%7 != 0 && r < 1114000 || 55296 <= r && r <= 57343 {
			continue
		}
		checkLabel(t, string(rune(r)))
		checkLabel(t, "xn--"+wantPuny([]int{r}))
		checkName(t, "Ab"+string(rune(r))+".c")
	}
}

func TestNamesOfEveryShortText(t *testing.T) {
	do := func(s string) {
		checkLabel(t, s)
		checkName(t, s)
		checkParts(t, s)
	}
	eachText("aZ0-._\xc3\xbc", 5, do)
	eachText("xn-.", 7, do)
}

func TestNamesOfEveryShortCode(t *testing.T) {
	for _, ahead := range []string{"xn--", "XN--", "a.xn--"} {
		eachText("abty09-K.\xff", 4, func(s string) {
			checkLabel(t, ahead+s)
			checkName(t, ahead+s)
		})
	}
	eachText(punyBytes, 3, func(s string) { checkLabel(t, "xn--"+s) })
	for _, x := range punyCodes {
		checkLabel(t, "xn--"+x.code)
		checkLabel(t, x.s)
		checkName(t, x.s+"."+wantLower(x.s))
	}
	for _, x := range noCodes {
		if got, ok := impl.ToAscii("xn--" + x.s); ok && wantAllBelow(x.s, 128) && wantLower(x.s) == x.s {
			t.Errorf("%s: ToAscii = %q", x.why, got)
		}
		checkLabel(t, "xn--"+x.s)
	}
}

func TestNamesOfManyTexts(t *testing.T) {
	turn := rand.New(rand.NewSource(4))
	pieces := []string{"a", "B", "9", "-", ".", ".", "xn--", "xn--tda", "ü", "É", "日", "\U0010ffff", "bcher-kva", longest, "zzzzzzzzzzzzzzzzzzzz", "\xff", "_"}
	for range 100000 {
		s, many := "", turn.Intn(12)
		for range many {
			// The last ones, which make a text wrong, come seldom.
			s += pieces[turn.Intn(len(pieces)-turn.Intn(3))]
		}
		checkLabel(t, s)
		checkName(t, s)
		checkParts(t, s)
	}
}

func TestParts(t *testing.T) {
	for _, x := range []struct {
		name string
		want []string
	}{
		{"", []string{}},
		{"a", []string{"a"}},
		{"a.b", []string{"b", "a"}},
		{"www.example.co.uk", []string{"uk", "co", "example", "www"}},
		{".", []string{"", ""}},
		{"a.", []string{"", "a"}},
		{".a", []string{"a", ""}},
		{"a..b", []string{"b", "", "a"}},
		{"WWW.Ü", []string{"Ü", "WWW"}},
		{"\xff.\x00", []string{"\x00", "\xff"}},
		{"a b", []string{"a b"}},
	} {
		if got := impl.Parts(x.name); !slices.Equal(got, x.want) {
			t.Errorf("Parts(%q) = %q; want %q", x.name, got, x.want)
		}
	}
}

func TestNamesAreNewMemory(t *testing.T) {
	for _, s := range []string{"abcdefgh", "www.example.com", "xn--bcher-kva"} {
		name, _ := impl.NameOf(s)
		label, _ := impl.ToAscii(s)
		text, _ := impl.ToUnicode(s)
		from := uintptr(unsafe.Pointer(unsafe.StringData(s)))
		for _, a := range append([]string{name, label, text}, impl.Parts(s)...) {
			at := uintptr(unsafe.Pointer(unsafe.StringData(a)))
			if from <= at && at < from+uintptr(len(s)) {
				t.Errorf("%q lies in its argument's memory", a)
			}
		}
	}
	one, two := impl.Parts("a.b"), impl.Parts("a.b")
	one[0] = "x"
	if !slices.Equal(two, []string{"b", "a"}) {
		t.Error("a second answer shares the first one's memory", two)
	}
}
