package tests

import (
	"math"
	"math/rand"
	"slices"
	"strings"
	"testing"
	"unsafe"

	"loop.example/g00191/impl"
)

// Codes of RFC 3492's kind, the greater ones of its own list of samples (7.1).
var punyCodes = []struct {
	why, s, code string
}{
	{"no runes", "", ""},
	{"below 128 alone", "abc", "abc-"},
	{"below 128, not in order", "cab", "cab-"},
	{"great letters stay", "aBc", "aBc-"},
	{"blanks and marks", "-> $1.00 <-", "-> $1.00 <--"},
	{"a hyphen alone", "-", "--"},
	{"two hyphens", "--", "---"},
	{"a hyphen at the end", "ab-", "ab--"},
	{"a hyphen at the beginning", "-ab", "-ab-"},
	{"a hyphen among them", "a-b", "a-b-"},
	{"the least and the last below 128", "\x00\x7f", "\x00\x7f-"},
	{"the first from 128 on", "\u0080", "a"},
	{"the second from 128 on", "\u0081", "ba"},
	{"from 128 on alone", "ü", "tda"},
	{"the same twice", "éé", "9caa"},
	{"the same three times", "ééé", "9caaa"},
	{"one, another, the one again", "\u0080\u0081\u0080", "aac"},
	{"another, one, another again", "\u0081\u0080\u0081", "abb"},
	{"the last rune", "\U0010ffff", "dn32g"},
	{"the last rune twice", "\U0010ffff\U0010ffff", "dn32ga"},
	{"the last rune behind another", "a\U0010ffff", "a-h023p"},
	{"ahead of those that are no runes", "\ud7ff", "hb9b"},
	{"behind those that are no runes", "\ue000", "0y0c"},
	{"mixed", "bücher", "bcher-kva"},
	{"mixed, the same below 128 twice", "aéa", "aa-bja"},
	{"mixed, the last below and the first above", "\x7f\u0080", "\x7f-ba"},
	{"mixed, a hyphen at the beginning", "-é", "--bga"},
	{"mixed, a hyphen at the end", "é-", "--9fa"},
	{"mixed, a hyphen among them", "a-é", "a--cja"},
	{"mixed, the same twice", "😀a😀", "a-iv3sba"},
	{"sample A", "ليهمابتكلموشعربي؟", "egbpdaj6bu4bxfgehfvwxn"},
	{"sample B", "他们为什么不说中文", "ihqwcrb4cv8a8dqg056pqjye"},
	{"sample C", "他們爲什麽不說中文", "ihqwctvzc91f659drss3x8bo0yb"},
	{"sample D", "Pročprostěnemluvíčesky", "Proprostnemluvesky-uyb24dma41a"},
	{"sample E", "למההםפשוטלאמדבריםעברית", "4dbcagdahymbxekheh6e0a7fei0b"},
	{"sample F", "यहलोगहिन्दीक्योंनहींबोलसकतेहैं", "i1baa7eci9glrd9b2ae1bj0hfcgg6iyaf8o0a1dig0cd"},
	{"sample G", "なぜみんな日本語を話してくれないのか", "n8jok5ay5dzabd5bym9f0cm5685rrjetr6pdxa"},
	{"sample I, in small letters", "почемужеонинеговорятпорусски", "b1abfaaepdrnnbgefbadotcwatmq2g4l"},
	{"sample J", "PorquénopuedensimplementehablarenEspañol", "PorqunopuedensimplementehablarenEspaol-fmd56a"},
	{"sample K", "TạisaohọkhôngthểchỉnóitiếngViệt", "TisaohkhngthchnitingVit-kjcr8268qyxafd2f1b9g"},
	{"sample L", "3年B組金八先生", "3B-ww4c5e180e575a65lsy2b"},
	{"sample M", "安室奈美恵-with-SUPER-MONKEYS", "-with-SUPER-MONKEYS-pc58ag80a8qai00g7n9n"},
	{"sample N", "Hello-Another-Way-それぞれの場所", "Hello-Another-Way--fc4qua05auwb3674vfr0b"},
	{"sample O", "ひとつ屋根の下2", "2-u9tlzr9756bt3uc0v"},
	{"sample P", "MajiでKoiする5秒前", "MajiKoi5-783gue6qz075azm5e"},
	{"sample Q", "パフィーdeルンバ", "de-jg4avhby1noc0d"},
	{"sample R", "そのスピードで", "d9juau41awczczp"},
	{"60 below 128", strings.Repeat("a", 60), strings.Repeat("a", 60) + "-"},
	{"60 from 128 on", strings.Repeat("\u0080", 60), strings.Repeat("a", 60)},
	{"60 of the last", strings.Repeat("\U0010ffff", 60), "dn32g" + strings.Repeat("a", 59)},
	{"the greatest step: the last behind 59", strings.Repeat("\u0080", 59) + "\U0010ffff", strings.Repeat("a", 59) + "4900597d"},
	{"the last ahead of 59", "\U0010ffff" + strings.Repeat("\u0080", 59), strings.Repeat("a", 59) + "5300597d"},
	{"the last behind 59 below 128", strings.Repeat("a", 59) + "\U0010ffff", strings.Repeat("a", 59) + "-3q6765c"},
	{"the last ahead of 59 below 128", "\U0010ffff" + strings.Repeat("a", 59), strings.Repeat("a", 59) + "-fp6765c"},
}

var noCodes = []struct {
	why, s string
}{
	{"a needless hyphen", "-"},
	{"a needless hyphen ahead of a code", "-tda"},
	{"ends in the midst of a number", "t"},
	{"ends in the midst of a number, too", "td"},
	{"ends in the midst, behind runes below 128", "bcher-kv"},
	{"ends in the midst of the second number", "tda9"},
	{"a byte that is no digit", "td_"},
	{"a blank", "tda "},
	{"a dot", "bcher-k.va"},
	{"a byte above 127 as a digit", "tda\xe9"},
	{"a rune as a digit", "é"},
	{"a byte from 128 on among those below", "\x80-"},
	{"a rune among those below 128", "é-tda"},
	{"great letters", "TDA"},
	{"one great letter", "tdA"},
	{"great letters behind runes below 128", "bcher-KVA"},
	{"one past the last rune", "en32g"},
	{"one past the last rune, behind another", "a-j023p"},
	{"a number past all runes", "99999999"},
	{"past the last rune by the second number", "dn32gb"},
	{"a number that would wrap round", strings.Repeat("9", 100)},
	{"a number that would wrap round, with an end", strings.Repeat("9", 100) + "a"},
	{"a number of 600 digits", strings.Repeat("9", 599) + "a"},
	{"61 runes below 128", strings.Repeat("a", 61) + "-"},
	{"61 runes from 128 on", strings.Repeat("a", 61)},
	{"61 runes, one from 128 on", strings.Repeat("a", 60) + "-a"},
	{"600 bytes", strings.Repeat("a", 600)},
	{"600 bytes, of runes below 128", strings.Repeat("a", 599) + "-"},
	{"601 bytes", strings.Repeat("a", 601)},
	{"601 bytes, of runes below 128", strings.Repeat("a", 600) + "-"},
	{"very many bytes", strings.Repeat("9", 1<<20)},
}

const punyBytes = "abcdefghijklmnopqrstuvwxyz0123456789"

// wantThreshold is t for the digit at a place of its number.
func wantThreshold(place, bias int) int {
	t := 36*(place+1) - bias
	if t < 1 {
		return 1
	}
	if t > 26 {
		return 26
	}
	return t
}

func wantNumber(q, place, bias int) string {
	t := wantThreshold(place, bias)
	if q < t {
		return punyBytes[q : q+1]
	}
	digit := t + (q-t)%(36-t)
	return punyBytes[digit:digit+1] + wantNumber((q-t)/(36-t), place+1, bias)
}

// wantAdapt is RFC 3492's, by its own names.
func wantAdapt(delta, numpoints int, firsttime bool) int {
	const base, tmin, tmax, skew, damp = 36, 1, 26, 38, 700
	if firsttime {
		delta = delta / damp
	} else {
		delta = delta / 2
	}
	delta = delta + delta/numpoints
	k := 0
	for delta > (base-tmin)*tmax/2 {
		delta = delta / (base - tmin)
		k = k + base
	}
	return k + (base-tmin+1)*delta/(delta+skew)
}

// wantPuny tells a code by what its reader does: the runes from 128 on come in
// one by one, the least first; a number is how many places lie between.
func wantPuny(l []int) string {
	low, code := "", ""
	places := []int{}
	for i, r := range l {
		if r < 128 {
			low += oneByte(r)
		} else {
			places = append(places, i)
		}
	}
	slices.SortStableFunc(places, func(a, b int) int { return l[a] - l[b] })
	n, at, bias := 128, 0, 72
	for count, i := range places {
		h, place := len(low)+count, 0
		for j, r := range l {
			if j < i && r <= l[i] {
				place++
			}
		}
		delta := (l[i]-n)*(h+1) + place - at
		code += wantNumber(delta, 0, bias)
		n, at, bias = l[i], place+1, wantAdapt(delta, h+1, count == 0)
	}
	if low != "" {
		low += "-"
	}
	return low + code
}

// readNumber is the number at the beginning of s, -1 when there is none, and
// its length.
func readNumber(s string, bias int) (number, length int) {
	weight := 1
	for i, c := range []byte(s) {
		digit, t := strings.IndexByte(punyBytes, c), wantThreshold(i, bias)
		if digit < 0 || weight > 1<<40 {
			return -1, 0
		}
		number += digit * weight
		if digit < t {
			return number, i + 1
		}
		weight *= 36 - t
	}
	return -1, 0
}

// wantRunes are the runes of a code, by RFC 3492's decoder.
func wantRunes(s string) ([]int, bool) {
	if len(s) > 600 {
		return nil, false
	}
	l, rest := []int{}, s
	if end := strings.LastIndex(s, "-"); end > 0 {
		for _, c := range []byte(s[:end]) {
			if c > 127 {
				return nil, false
			}
			l = append(l, int(c))
		}
		rest = s[end+1:]
	}
	n, at, bias, first := 128, 0, 72, true
	for rest != "" {
		number, length := readNumber(rest, bias)
		if number < 0 {
			return nil, false
		}
		rest = rest[length:]
		bias = wantAdapt(number, len(l)+1, first)
		first = false
		at += number
		n, at = n+at/(len(l)+1), at%(len(l)+1)
		if n > 1114111 || 55296 <= n && n <= 57343 {
			return nil, false
		}
		l = slices.Insert(l, at, n)
		at++
	}
	return l, len(l) <= 60
}

func checkEncode(t *testing.T, l []int) {
	t.Helper()
	want := wantPuny(l)
	code, ok := impl.PunyEncode(l)
	if !ok || code != want {
		t.Fatalf("PunyEncode(%v) = %q, %v; want %q", l, code, ok, want)
	}
	if back, ok := impl.PunyDecode(code); !ok || !slices.Equal(back, l) {
		t.Fatalf("PunyDecode(%q) = %v, %v; want %v", code, back, ok, l)
	}
}

func checkDecode(t *testing.T, s string) {
	t.Helper()
	want, wantOk := wantRunes(s)
	if !wantOk {
		want = nil
	}
	got, ok := impl.PunyDecode(s)
	if ok != wantOk || !slices.Equal(got, want) {
		t.Fatalf("PunyDecode(%q) = %v, %v; want %v, %v", s, got, ok, want, wantOk)
	}
	if !ok {
		return
	}
	if code, ok := impl.PunyEncode(got); !ok || code != s {
		t.Fatalf("PunyEncode(%v) = %q, %v; want %q", got, code, ok, s)
	}
}

// eachList calls do with every list of at most most of these numbers.
func eachList(of []int, most int, do func(l []int)) {
	var grow func(l []int)
	grow = func(l []int) {
		do(l)
		if len(l) < most {
			for _, n := range of {
				grow(append(slices.Clone(l), n))
			}
		}
	}
	grow([]int{})
}

func TestAdapt(t *testing.T) {
	for _, x := range []struct {
		delta int
		want  [2][3]int
	}{
		{0, [2][3]int{{0, 0, 0}, {0, 0, 0}}},
		{1, [2][3]int{{0, 0, 0}, {0, 0, 0}}},
		{2, [2][3]int{{1, 0, 0}, {0, 0, 0}}},
		{38, [2][3]int{{18, 12, 12}, {0, 0, 0}}},
		{75, [2][3]int{{23, 17, 17}, {0, 0, 0}}},
		{76, [2][3]int{{24, 18, 18}, {0, 0, 0}}},
		{455, [2][3]int{{33, 30, 30}, {0, 0, 0}}},
		{456, [2][3]int{{45, 30, 30}, {0, 0, 0}}},
		{699, [2][3]int{{48, 32, 32}, {0, 0, 0}}},
		{700, [2][3]int{{48, 32, 32}, {1, 0, 0}}},
		{911, [2][3]int{{50, 45, 33}, {1, 0, 0}}},
		{912, [2][3]int{{50, 45, 45}, {1, 0, 0}}},
		{1399, [2][3]int{{54, 48, 48}, {1, 0, 0}}},
		{1400, [2][3]int{{54, 48, 48}, {3, 1, 1}}},
		{31850, [2][3]int{{86, 81, 69}, {25, 19, 19}}},
		{31920, [2][3]int{{86, 81, 81}, {25, 19, 19}}},
		{318499, [2][3]int{{103, 99, 99}, {50, 45, 33}}},
		{638400, [2][3]int{{117, 103, 103}, {56, 50, 50}}},
		{67000000, [2][3]int{{163, 157, 157}, {100, 96, 96}}},
		{999999999999, [2][3]int{{262, 247, 247}, {201, 194, 194}}},
		{1000000000000, [2][3]int{{262, 247, 247}, {201, 194, 194}}},
	} {
		for j, n := range []int{1, 60, 1000000} {
			for i, first := range []bool{false, true} {
				if got := impl.Adapt(x.delta, n, first); got != x.want[i][j] {
					t.Errorf("Adapt(%d, %d, %v) = %d; want %d", x.delta, n, first, got, x.want[i][j])
				}
			}
		}
	}
}

func TestAdaptOfManyDeltas(t *testing.T) {
	for _, n := range []int{1, 2, 3, 7, 60, 61, 999, 999999, 1000000} {
		for delta := range 5000 {
			for _, wide := range []int{1, 1013, 200000033} {
				for _, first := range []bool{false, true} {
					d := delta * wide
					if got, want := impl.Adapt(d, n, first), wantAdapt(d, n, first); got != want {
						t.Fatalf("Adapt(%d, %d, %v) = %d; want %d", d, n, first, got, want)
					}
				}
			}
		}
	}
}

func TestAdaptOfWrongNumbers(t *testing.T) {
	const many = 1000000000000
	for _, x := range []struct{ delta, n int }{
		{-1, 1}, {-1400, 1}, {-38 * 700, 1}, {many + 1, 1}, {math.MinInt, 1}, {math.MaxInt, 1},
		{many, 0}, {many, -1}, {many, 1000001}, {many, math.MinInt}, {many, math.MaxInt},
		{-1, 0}, {many + 1, 1000001}, {math.MinInt, -1},
	} {
		for _, first := range []bool{false, true} {
			if got := impl.Adapt(x.delta, x.n, first); got != 0 {
				t.Errorf("Adapt(%d, %d, %v) = %d", x.delta, x.n, first, got)
			}
		}
	}
}

func TestPunyCodes(t *testing.T) {
	for _, x := range punyCodes {
		l := []int{}
		for _, r := range x.s {
			l = append(l, int(r))
		}
		if code, ok := impl.PunyEncode(l); !ok || code != x.code {
			t.Errorf("%s: PunyEncode(%q) = %q, %v; want %q", x.why, x.s, code, ok, x.code)
		}
		if back, ok := impl.PunyDecode(x.code); !ok || !slices.Equal(back, l) {
			t.Errorf("%s: PunyDecode(%q) = %v, %v; want %v", x.why, x.code, back, ok, l)
		}
	}
	if code, ok := impl.PunyEncode(nil); !ok || code != "" {
		t.Errorf("PunyEncode(nil) = %q, %v", code, ok)
	}
}

func TestPunyDecodeOfNoCode(t *testing.T) {
	for _, x := range noCodes {
		if l, ok := impl.PunyDecode(x.s); ok || len(l) != 0 {
			t.Errorf("%s: PunyDecode = %v, %v", x.why, l, ok)
		}
	}
}

func TestPunyDecodeOfCodesOfNoRunes(t *testing.T) {
	for _, l := range [][]int{
		{55296}, {57343}, {56000}, {1114112}, {2000000}, {97, 55296}, {55296, 97}, {55295, 55296}, {233, 57343, 57344}, {57343, 57343},
	} {
		code := wantPuny(l)
		if got, ok := impl.PunyDecode(code); ok || len(got) != 0 {
			t.Errorf("PunyDecode(%q) = %v, %v; it is of %v", code, got, ok, l)
		}
	}
}

func TestPunyEncodeOfNoRunes(t *testing.T) {
	for _, n := range noRunes {
		for _, l := range [][]int{{n}, {97, n}, {n, 233}, {233, n, 233}} {
			if code, ok := impl.PunyEncode(l); ok || code != "" {
				t.Errorf("PunyEncode(%v) = %q, %v", l, code, ok)
			}
		}
	}
}

func TestPunyEncodeOfTooManyRunes(t *testing.T) {
	for _, r := range []int{'a', '-', 128, 1114111, -1} {
		for _, many := range []int{61, 62, 100, 10000} {
			if code, ok := impl.PunyEncode(slices.Repeat([]int{r}, many)); ok || code != "" {
				t.Errorf("PunyEncode of %d times %d = %q, %v", many, r, code, ok)
			}
		}
	}
}

func TestPunyEncodeOfEveryShortList(t *testing.T) {
	eachList([]int{0, 45, 97, 127, 128, 129, 233, 1114111}, 5, func(l []int) { checkEncode(t, l) })
}

func TestPunyEncodeOfEveryRuneAlone(t *testing.T) {
	for r := range 1114112 {
		if r < 55296 || r > 57343 {
			checkEncode(t, []int{r})
		}
	}
}

func TestPunyEncodeOfManyLists(t *testing.T) {
	turn := rand.New(rand.NewSource(3))
	for range 20000 {
		most := []int{128, 200, 1000, 55296, 1114112}[turn.Intn(5)]
		l := make([]int, turn.Intn(61))
		for i := range l {
			l[i] = turn.Intn(most)
			if 55296 <= l[i] && l[i] <= 57343 {
				l[i] = 45
			}
		}
		checkEncode(t, l)
	}
}

func TestPunyDecodeOfEveryShortText(t *testing.T) {
	eachText("az09-A\x80", 6, func(s string) { checkDecode(t, s) })
	eachText(punyBytes, 3, func(s string) { checkDecode(t, s) })
	eachText(allBytes(), 2, func(s string) { checkDecode(t, s) })
}

func TestPunyDecodeOfManyTexts(t *testing.T) {
	turn := rand.New(rand.NewSource(33))
	for range 100000 {
		b := make([]byte, turn.Intn(30))
		for i := range b {
			b[i] = punyBytes[turn.Intn(turn.Intn(36)+1)]
		}
		checkDecode(t, string(b))
		checkDecode(t, "a-"+string(b))
	}
}

func TestPunyDecodeOfBeginnings(t *testing.T) {
	for _, x := range punyCodes {
		for end := range len(x.code) {
			checkDecode(t, x.code[:end])
			checkDecode(t, strings.ToUpper(x.code[:end])+x.code[end:])
		}
	}
}

// Weights of long numbers wrap round in 64 bits, to numbers below 0, too.
func TestPunyDecodeOfLongNumbers(t *testing.T) {
	for _, digit := range []string{"9", "5", "1", "z"} {
		for many := range 100 {
			long := strings.Repeat(digit, many)
			for _, s := range []string{long, long + "a", long + "y", "a-" + long + "a", "tda" + long + "a"} {
				checkDecode(t, s)
			}
		}
	}
}

func TestPunyLeavesItsList(t *testing.T) {
	l := []int{233, 97, 45, 128, 9, 9, 9}
	before := slices.Clone(l)
	if code, ok := impl.PunyEncode(l[:4]); !ok || code != wantPuny(before[:4]) {
		t.Error(code, ok)
	}
	if !slices.Equal(l, before) {
		t.Error(l)
	}
}

func TestPunyIsNewMemory(t *testing.T) {
	code := wantPuny([]int{97, 233})
	one, _ := impl.PunyDecode(code)
	two, _ := impl.PunyDecode(code)
	one[0] = 7
	if !slices.Equal(two, []int{97, 233}) {
		t.Error(two)
	}
	l := []int{97, 98}
	first, _ := impl.PunyEncode(l)
	second, _ := impl.PunyEncode(l)
	if first != "ab-" || unsafe.StringData(first) == unsafe.StringData(second) {
		t.Error("two codes share memory", first, second)
	}
}
