package tests

import (
	"bytes"
	"math"
	"math/rand"
	"slices"
	"strconv"
	"strings"
	"testing"
	"unsafe"

	"loop.example/g00191/impl"
)

type acts = []impl.Act

const (
	longestText = 2000
	longestBody = 2000
)

func foundAct(text string, prio int) impl.Act {
	return impl.Act{Kind: impl.ActFound, Text: text, N: prio}
}

func robotsAct(text, body string, n int) impl.Act {
	return impl.Act{Kind: impl.ActRobots, Text: text, Body: body, N: n}
}

func nextAct() impl.Act { return impl.Act{Kind: impl.ActNext} }

func doneAct(text string) impl.Act { return impl.Act{Kind: impl.ActDone, Text: text} }

func backAct(text string) impl.Act { return impl.Act{Kind: impl.ActBack, Text: text} }

func passAct(n int) impl.Act { return impl.Act{Kind: impl.ActPass, N: n} }

func anewAct() impl.Act { return impl.Act{Kind: impl.ActAnew} }

func xs(many int) string { return strings.Repeat("x", many) }

var rightActs = []struct {
	why, b string
	a      impl.Act
}{
	{"an address", "\x01\xf4\x03\x0dhttp://a.com/\x00", foundAct("http://a.com/", 500)},
	{"an address of one byte that matters least", "\x01\x00\x01u\x00", foundAct("u", 0)},
	{"an address that matters most", "\x01\xe8\x07\x01u\x00", foundAct("u", 1000)},
	{"an address that is none", "\x01\x01\x03\x00\xff\x80\x00", foundAct("\x00\xff\x80", 1)},
	{"an address of two groups", "\x01\x07\x80\x01" + xs(128) + "\x00", foundAct(xs(128), 7)},
	{"the longest address", "\x01\x07\xd0\x0f" + xs(2000) + "\x00", foundAct(xs(2000), 7)},
	{"what is forbidden", "\x02\x64\x01u\x0cdisallow: /\n", robotsAct("u", "disallow: /\n", 100)},
	{"nothing that is forbidden", "\x02\x01\x01u\x00", robotsAct("u", "", 1)},
	{"for long", "\x02\xc0\x84\x3d\x01u\x01b", robotsAct("u", "b", 1000000)},
	{"the longest address, and much forbidden", "\x02\x07\xd0\x0f" + xs(2000) + "\xd0\x0f" + strings.Repeat("\x00", 2000), robotsAct(xs(2000), strings.Repeat("\x00", 2000), 7)},
	{"one is asked for", "\x03\x00\x00\x00", nextAct()},
	{"one is done", "\x04\x00\x01u\x00", doneAct("u")},
	{"the longest one is done", "\x04\x00\xd0\x0f" + xs(2000) + "\x00", doneAct(xs(2000))},
	{"one is given back", "\x05\x00\x03u v\x00", backAct("u v")},
	{"the longest one is given back", "\x05\x00\xd0\x0f" + xs(2000) + "\x00", backAct(xs(2000))},
	{"a tick", "\x06\x01\x00\x00", passAct(1)},
	{"most ticks", "\x06\x90\x4e\x00\x00", passAct(10000)},
	{"anew", "\x07\x00\x00\x00", anewAct()},
}

var wrongActs = []struct {
	why string
	a   impl.Act
}{
	{"the zero one", impl.Act{}},
	{"no kind, with all that a kind may have", impl.Act{Text: "u", Body: "b", N: 1}},
	{"a kind below 0", impl.Act{Kind: -1}},
	{"a kind that is the other way round", impl.Act{Kind: -impl.ActNext}},
	{"a kind above", impl.Act{Kind: 8}},
	{"a kind above, with a text", impl.Act{Kind: 8, Text: "u"}},
	{"a kind above, with ticks", impl.Act{Kind: 8, N: 1}},
	{"a kind whose lowest byte is one", impl.Act{Kind: 256 + impl.ActNext}},
	{"a kind whose lower half is one", impl.Act{Kind: 1<<32 + impl.ActNext}},
	{"the least kind there is", impl.Act{Kind: math.MinInt}},
	{"the greatest kind there is", impl.Act{Kind: math.MaxInt}},
	{"found, without a text", foundAct("", 500)},
	{"found, and too long by one", foundAct(xs(2001), 500)},
	{"found, and far too long", foundAct(xs(100000), 500)},
	{"found, and matters less than nothing", foundAct("u", -1)},
	{"found, and matters too much by one", foundAct("u", 1001)},
	{"found, and matters as many ticks", foundAct("u", 10000)},
	{"found, and matters more than may be written", foundAct("u", math.MaxInt)},
	{"found, and matters as little as may not be written", foundAct("u", math.MinInt)},
	{"found, with a body", impl.Act{Kind: impl.ActFound, Text: "u", Body: "b", N: 500}},
	{"robots, without a text", robotsAct("", "b", 7)},
	{"robots, and too long by one", robotsAct(xs(2001), "b", 7)},
	{"robots, and a body that is too long by one", robotsAct("u", xs(2001), 7)},
	{"robots, and a body that is far too long", robotsAct("u", xs(100000), 7)},
	{"robots, for no time", robotsAct("u", "b", 0)},
	{"robots, for less than no time", robotsAct("u", "b", -1)},
	{"robots, for too long by one", robotsAct("u", "b", 1000001)},
	{"robots, for as long as may not be written", robotsAct("u", "b", math.MaxInt)},
	{"next, with a text", impl.Act{Kind: impl.ActNext, Text: "u"}},
	{"next, with a body", impl.Act{Kind: impl.ActNext, Body: "b"}},
	{"next, with a number", impl.Act{Kind: impl.ActNext, N: 1}},
	{"next, with a number below 0, which is written as 0", impl.Act{Kind: impl.ActNext, N: -1}},
	{"done, without a text", doneAct("")},
	{"done, and too long by one", doneAct(xs(2001))},
	{"done, with a body", impl.Act{Kind: impl.ActDone, Text: "u", Body: "b"}},
	{"done, with a number", impl.Act{Kind: impl.ActDone, Text: "u", N: 1}},
	{"done, with a number below 0, which is written as 0", impl.Act{Kind: impl.ActDone, Text: "u", N: -1}},
	{"given back, without a text", backAct("")},
	{"given back, and too long by one", backAct(xs(2001))},
	{"given back, with a body", impl.Act{Kind: impl.ActBack, Text: "u", Body: "b"}},
	{"given back, with a number", impl.Act{Kind: impl.ActBack, Text: "u", N: 1}},
	{"given back, with a number below 0, which is written as 0", impl.Act{Kind: impl.ActBack, Text: "u", N: -7}},
	{"no tick", passAct(0)},
	{"a tick back", passAct(-1)},
	{"too many ticks by one", passAct(10001)},
	{"as many ticks as may not be written", passAct(math.MaxInt)},
	{"ticks, with a text", impl.Act{Kind: impl.ActPass, Text: "u", N: 1}},
	{"ticks, with a body", impl.Act{Kind: impl.ActPass, Body: "b", N: 1}},
	{"anew, with a text", impl.Act{Kind: impl.ActAnew, Text: "u"}},
	{"anew, with a body", impl.Act{Kind: impl.ActAnew, Body: "b"}},
	{"anew, with a number", impl.Act{Kind: impl.ActAnew, N: 1}},
	{"anew, with a number below 0, which is written as 0", impl.Act{Kind: impl.ActAnew, N: -1}},
}

var noActBytes = []struct{ why, b string }{
	{"no byte", ""},
	{"a kind alone", "\x03"},
	{"a kind and a number", "\x03\x00"},
	{"no body", "\x03\x00\x00"},
	{"a byte more", "\x03\x00\x00\x00\x00"},
	{"another one behind", "\x03\x00\x00\x00\x07\x00\x00\x00"},
	{"a byte ahead", "\x00\x03\x00\x00\x00"},
	{"a frame", wantFrame("\x03\x00\x00\x00")},
	{"a text that ends early", "\x04\x00\x02u"},
	{"a text that takes all that is behind", "\x04\x00\x02u\x00"},
	{"a text that is told too short", "\x04\x00\x01uv\x00"},
	{"a body that ends early", "\x02\x01\x01u\x02b"},
	{"a body that is told too short", "\x02\x01\x01u\x01bb"},
	{"a body ahead of its text", "\x02\x01\x00\x01u"},
	{"a kind in two groups", "\x83\x00\x00\x00\x00"},
	{"a number in two groups", "\x03\x80\x00\x00\x00"},
	{"a text's size in two groups", "\x04\x00\x81\x00u\x00"},
	{"a body's size in two groups", "\x02\x01\x01u\x81\x00b"},
	{"an empty text's size in two groups", "\x03\x00\x80\x00\x00"},
	{"an empty body's size in two groups", "\x03\x00\x00\x80\x00"},
	{"a number of three groups in four", "\x02\xc0\x84\xbd\x00\x01u\x01b"},
	{"a number above all", "\x01\x81\x94\xeb\xdc\x03\x01u\x00"},
	{"a size above all", "\x04\x00\x81\x94\xeb\xdc\x03u\x00"},
	{"a kind that is none", "\x00\x00\x00\x00"},
	{"a kind above", "\x08\x00\x00\x00"},
	{"a kind above, in two groups", "\x83\x01\x00\x00\x00"},
	{"a kind whose lowest byte is one", "\x83\x02\x00\x00\x00"},
	{"the greatest kind", wantNum(greatestNum) + "\x00\x00\x00"},
	{"found, without a text", "\x01\x07\x00\x00"},
	{"found, and too long by one", "\x01\x07\xd1\x0f" + xs(2001) + "\x00"},
	{"found, and matters too much by one", "\x01\xe9\x07\x01u\x00"},
	{"found, and matters more than may be written", "\x01\x80\x94\xeb\xdc\x03\x01u\x00"},
	{"found, with a body", "\x01\x07\x01u\x01b"},
	{"robots, without a text", "\x02\x07\x00\x01b"},
	{"robots, and too long by one", "\x02\x07\xd1\x0f" + xs(2001) + "\x01b"},
	{"robots, and a body that is too long by one", "\x02\x07\x01u\xd1\x0f" + xs(2001)},
	{"robots, for no time", "\x02\x00\x01u\x01b"},
	{"robots, for too long by one", "\x02\xc1\x84\x3d\x01u\x01b"},
	{"next, with a text", "\x03\x00\x01u\x00"},
	{"next, with a body", "\x03\x00\x00\x01b"},
	{"next, with a number", "\x03\x01\x00\x00"},
	{"done, without a text", "\x04\x00\x00\x00"},
	{"done, and too long by one", "\x04\x00\xd1\x0f" + xs(2001) + "\x00"},
	{"done, with a body", "\x04\x00\x01u\x01b"},
	{"done, with a number", "\x04\x01\x01u\x00"},
	{"given back, without a text", "\x05\x00\x00\x00"},
	{"given back, and too long by one", "\x05\x00\xd1\x0f" + xs(2001) + "\x00"},
	{"given back, with a body", "\x05\x00\x01u\x01b"},
	{"given back, with a number", "\x05\x01\x01u\x00"},
	{"no tick", "\x06\x00\x00\x00"},
	{"too many ticks by one", "\x06\x91\x4e\x00\x00"},
	{"ticks, with a text", "\x06\x01\x01u\x00"},
	{"ticks, with a body", "\x06\x01\x00\x01b"},
	{"anew, with a text", "\x07\x00\x01u\x00"},
	{"anew, with a body", "\x07\x00\x00\x01b"},
	{"anew, with a number", "\x07\x01\x00\x00"},
}

// actHas is what an act of each kind has, at the least and at the most.
var actHas = map[int]struct{ text, textMost, bodyMost, n, nMost int }{
	impl.ActFound:  {text: 1, textMost: longestText, nMost: 1000},
	impl.ActRobots: {text: 1, textMost: longestText, bodyMost: longestBody, n: 1, nMost: 1000000},
	impl.ActNext:   {},
	impl.ActDone:   {text: 1, textMost: longestText},
	impl.ActBack:   {text: 1, textMost: longestText},
	impl.ActPass:   {n: 1, nMost: 10000},
	impl.ActAnew:   {},
}

func wantActOk(a impl.Act) bool {
	has, ok := actHas[a.Kind]
	return ok && has.text <= len(a.Text) && len(a.Text) <= has.textMost &&
		len(a.Body) <= has.bodyMost && has.n <= a.N && a.N <= has.nMost
}

// toldAct is written of every act, of one that is not right, too.
func toldAct(a impl.Act) string {
	return wantNum(a.Kind) + wantNum(a.N) + wantText(a.Text) + wantText(a.Body)
}

func wantAct(a impl.Act) string {
	if !wantActOk(a) {
		return ""
	}
	return toldAct(a)
}

func wantGetAct(b string) (impl.Act, bool) {
	kind, at, kindOk := wantGetNum(b, 0)
	n, at, nOk := wantGetNum(b, at)
	text, at, textOk := wantGetText(b, at)
	body, at, bodyOk := wantGetText(b, at)
	a := impl.Act{Kind: kind, Text: text, Body: body, N: n}
	if !kindOk || !nOk || !textOk || !bodyOk || at != len(b) || !wantActOk(a) {
		return impl.Act{}, false
	}
	return a, true
}

func wantActs(l acts) string {
	b := ""
	for _, a := range l {
		if wantActOk(a) {
			b += wantFrame(toldAct(a))
		}
	}
	return b
}

func wantReadActs(b string) (acts, int) {
	l, at := acts{}, 0
	for {
		body, next, ok := wantUnframe(b, at)
		if !ok {
			return l, at
		}
		a, ok := wantGetAct(body)
		if !ok {
			return l, at
		}
		l, at = append(l, a), next
	}
}

func actText(a impl.Act) string {
	text := "kind " + strconv.Itoa(a.Kind) + " n " + strconv.Itoa(a.N)
	for _, s := range []string{a.Text, a.Body} {
		if len(s) > 30 {
			s = s[:10] + "..(" + strconv.Itoa(len(s)) + ")"
		}
		text += " " + strconv.Quote(s)
	}
	return text
}

func actsText(l acts) string {
	if len(l) > 5 {
		return strconv.Itoa(len(l)) + " acts"
	}
	text := ""
	for _, a := range l {
		text += "{" + actText(a) + "}"
	}
	return text
}

func checkGetAct(t *testing.T, why string, b []byte) {
	t.Helper()
	a, ok := impl.GetAct(b)
	if want, wantOk := wantGetAct(string(b)); a != want || ok != wantOk {
		t.Errorf("%s: GetAct(%.60x) = %s, %v; want %s, %v", why, b, actText(a), ok, actText(want), wantOk)
	}
}

func checkReadActs(t *testing.T, why string, b []byte) {
	t.Helper()
	l, at := impl.ReadActs(b)
	if want, wantAt := wantReadActs(string(b)); !slices.Equal(l, want) || at != wantAt {
		t.Errorf("%s: ReadActs(%.60x) = %s, %d; want %s, %d", why, b, actsText(l), at, actsText(want), wantAt)
	}
}

// checkAct asks all five functions of an act, right or wrong.
func checkAct(t *testing.T, why string, a impl.Act) {
	t.Helper()
	want := wantAct(a)
	if ok := impl.ActOk(a); ok != wantActOk(a) {
		t.Errorf("%s: ActOk(%s) = %v; want %v", why, actText(a), ok, !ok)
	}
	if b := impl.PutAct(a); string(b) != want {
		t.Errorf("%s: PutAct(%s) = %.60x; want %.60x", why, actText(a), b, want)
	}
	if b := impl.PutActs(acts{a}); string(b) != wantActs(acts{a}) {
		t.Errorf("%s: PutActs(%s) = %.60x; want %.60x", why, actText(a), b, wantActs(acts{a}))
	}
	checkGetAct(t, why, []byte(toldAct(a)))
	checkReadActs(t, why, []byte(wantFrame(toldAct(a))))
	if !wantActOk(a) {
		return
	}
	if got, ok := impl.GetAct(impl.PutAct(a)); got != a || !ok {
		t.Errorf("%s: of PutAct(%s) comes %s, %v", why, actText(a), actText(got), ok)
	}
	b := impl.PutActs(acts{a, a})
	if l, at := impl.ReadActs(b); !slices.Equal(l, acts{a, a}) || at != len(b) {
		t.Errorf("%s: of PutActs of two %s comes %s, %d", why, actText(a), actsText(l), at)
	}
}

func TestActKinds(t *testing.T) {
	kinds := []int{impl.ActFound, impl.ActRobots, impl.ActNext, impl.ActDone, impl.ActBack, impl.ActPass, impl.ActAnew}
	if want := []int{1, 2, 3, 4, 5, 6, 7}; !slices.Equal(kinds, want) {
		t.Errorf("the kinds are %v; want %v", kinds, want)
	}
}

func TestRightActs(t *testing.T) {
	for _, x := range rightActs {
		if !impl.ActOk(x.a) {
			t.Errorf("%s: ActOk(%s) = false; want true", x.why, actText(x.a))
		}
		if b := impl.PutAct(x.a); string(b) != x.b {
			t.Errorf("%s: PutAct(%s) = %.60x; want %.60x", x.why, actText(x.a), b, x.b)
		}
		if a, ok := impl.GetAct([]byte(x.b)); a != x.a || !ok {
			t.Errorf("%s: GetAct(%.60x) = %s, %v; want %s, true", x.why, x.b, actText(a), ok, actText(x.a))
		}
		checkAct(t, x.why, x.a)
	}
}

func TestWrongActs(t *testing.T) {
	for _, x := range wrongActs {
		if impl.ActOk(x.a) {
			t.Errorf("%s: ActOk(%s) = true; want false", x.why, actText(x.a))
		}
		if b := impl.PutAct(x.a); len(b) != 0 {
			t.Errorf("%s: PutAct(%s) = %.60x; want nothing", x.why, actText(x.a), b)
		}
		if b := impl.PutActs(acts{x.a, x.a}); len(b) != 0 {
			t.Errorf("%s: PutActs of two %s = %.60x; want nothing", x.why, actText(x.a), b)
		}
		checkAct(t, x.why, x.a)
	}
}

func TestNoActBytes(t *testing.T) {
	for _, x := range noActBytes {
		if a, ok := impl.GetAct([]byte(x.b)); a != (impl.Act{}) || ok {
			t.Errorf("%s: GetAct(%.60x) = %s, %v; want the zero one, false", x.why, x.b, actText(a), ok)
		}
		for _, ahead := range []acts{{}, {nextAct()}, {passAct(300), foundAct("u", 3)}} {
			from := wantActs(ahead)
			b := []byte(from + wantFrame(x.b) + wantActs(acts{nextAct(), doneAct("u")}))
			if l, at := impl.ReadActs(b); !slices.Equal(l, ahead) || at != len(from) {
				t.Errorf("%s: ReadActs(%.60x) = %s, %d; want %s, %d", x.why, b, actsText(l), at, actsText(ahead), len(from))
			}
		}
		checkGetAct(t, x.why, []byte(x.b))
	}
	if a, ok := impl.GetAct(nil); a != (impl.Act{}) || ok {
		t.Errorf("GetAct(nil) = %s, %v; want the zero one, false", actText(a), ok)
	}
}

func TestActsOfAllKindsAtTheirEdges(t *testing.T) {
	numbers := []int{math.MinInt, -1 << 32, -1001, -1000, -1, 0, 1, 2, 999, 1000, 1001, 9999, 10000, 10001, 999999, 1000000, 1000001, greatestNum, greatestNum + 1, 1 << 32, 1<<32 + 1, math.MaxInt}
	lengths := []int{0, 1, 2, 127, 128, 1999, 2000, 2001}
	for _, kind := range []int{-1 << 32, -7, -1, 0, 1, 2, 3, 4, 5, 6, 7, 8, 9, 129, 256 + 2, 1<<32 + 4} {
		for _, n := range numbers {
			for _, text := range lengths {
				for _, body := range lengths {
					checkAct(t, "an edge", impl.Act{Kind: kind, Text: xs(text), Body: xs(body), N: n})
				}
			}
		}
	}
}

func TestActsOfEachNumber(t *testing.T) {
	for n := -3; n <= 11000; n++ {
		for kind := impl.ActFound; kind <= impl.ActAnew; kind++ {
			a := impl.Act{Kind: kind, N: n}
			if actHas[kind].text > 0 {
				a.Text = "u"
			}
			if ok := impl.ActOk(a); ok != wantActOk(a) {
				t.Errorf("ActOk(%s) = %v; want %v", actText(a), ok, !ok)
			}
			if b := impl.PutAct(a); string(b) != wantAct(a) {
				t.Errorf("PutAct(%s) = %.60x; want %.60x", actText(a), b, wantAct(a))
			}
			checkGetAct(t, "a number", []byte(toldAct(a)))
		}
	}
}

// someBytes may be an address, or anything else.
func someBytes(turn *rand.Rand, most int) string {
	b := make([]byte, turn.Intn(1+turn.Intn(1+most)))
	turn.Read(b)
	return string(b)
}

func someRightAct(turn *rand.Rand) impl.Act {
	kind := 1 + turn.Intn(7)
	has := actHas[kind]
	a := impl.Act{Kind: kind, N: has.n + turn.Intn(has.nMost-has.n+1)}
	if has.textMost > 0 {
		a.Text = "u" + someBytes(turn, has.textMost-1)
	}
	a.Body = someBytes(turn, has.bodyMost)
	return a
}

// someAct is wrong about as often as right.
func someAct(turn *rand.Rand) impl.Act {
	a := someRightAct(turn)
	switch turn.Intn(12) {
	case 0:
		a.Kind = turn.Intn(20) - 5
	case 1:
		a.N = turn.Intn(2000000) - 100
	case 2:
		a.Text = someBytes(turn, 30)
	case 3:
		a.Body = someBytes(turn, 30)
	case 4:
		a.Text += xs(2000)
	case 5:
		a.N = -a.N
	}
	return a
}

func someActs(turn *rand.Rand, most int, one func(turn *rand.Rand) impl.Act) acts {
	l := acts{}
	for range turn.Intn(most + 1) {
		l = append(l, one(turn))
	}
	return l
}

func TestActsComeBack(t *testing.T) {
	turn := rand.New(rand.NewSource(171))
	for range 3000 {
		checkAct(t, "one of some", someAct(turn))
		a := someRightAct(turn)
		if got, ok := impl.GetAct(impl.PutAct(a)); got != a || !ok {
			t.Errorf("of PutAct(%s) comes %s, %v", actText(a), actText(got), ok)
		}
	}
	for c := range 256 {
		for _, s := range []string{oneByte(c), oneByte(c) + "u", "u" + oneByte(c), "u" + oneByte(c) + "u"} {
			for _, a := range (acts{foundAct(s, c), robotsAct(s, s, 1+c), robotsAct("u", s, 1+c), doneAct(s), backAct(s)}) {
				checkAct(t, "a byte of each", a)
			}
		}
	}
}

func TestGetActOfAllSmallBytes(t *testing.T) {
	eachText("\x00\x01\x02\x03\x06\x80", 6, func(s string) { checkGetAct(t, "small", []byte(s)) })
	eachText("\x00\x01\x04\x80\x81", 7, func(s string) { checkGetAct(t, "small", []byte(s)) })
	for a := range 256 {
		for b := range 256 {
			checkGetAct(t, "a kind and a number", []byte{byte(a), byte(b), 0, 0})
			checkGetAct(t, "a kind and a number", []byte{byte(a), byte(b), 1, 'u', 0})
			checkGetAct(t, "a kind and a size", []byte{byte(a), 1, byte(b), 'u', 0})
			checkGetAct(t, "two sizes", []byte{2, 1, byte(a), 'u', byte(b), 'b'})
		}
	}
}

// shortActs are such as are short enough to be turned at each place.
func shortActs() acts {
	l := acts{}
	for _, x := range rightActs {
		if len(x.b) < 150 {
			l = append(l, x.a)
		}
	}
	return append(l, robotsAct("http://a.com/robots.txt", "user-agent: *\ndisallow: /\n", 86400), doneAct(allBytes()), doneAct("http://a.com/"), backAct("http://a.com/b?c"))
}

func TestActBytesThatAreTurned(t *testing.T) {
	for _, a := range shortActs() {
		b := []byte(wantAct(a))
		for end := range b {
			if got, ok := impl.GetAct(b[:end]); got != (impl.Act{}) || ok {
				t.Errorf("GetAct(%.60x) = %s, %v; want the zero one, false: %d of %d bytes", b[:end], actText(got), ok, end, len(b))
			}
		}
		for c := range 256 {
			more := append(slices.Clone(b), byte(c))
			if got, ok := impl.GetAct(more); got != (impl.Act{}) || ok {
				t.Errorf("GetAct(%.60x) = %s, %v; want the zero one, false: a byte more", more, actText(got), ok)
			}
			checkGetAct(t, "a byte ahead", append([]byte{byte(c)}, b...))
		}
		for i := range b {
			checkGetAct(t, "a byte less", slices.Delete(slices.Clone(b), i, i+1))
			checkGetAct(t, "a byte twice", slices.Insert(slices.Clone(b), i, b[i]))
			for c := range 256 {
				turned := slices.Clone(b)
				turned[i] = byte(c)
				checkGetAct(t, "another byte", turned)
			}
			turned := slices.Insert(slices.Clone(b), i+1, 0)
			turned[i] |= 128
			checkGetAct(t, "a group more", turned)
		}
	}
}

func TestGetActOfSomeBytes(t *testing.T) {
	turn := rand.New(rand.NewSource(172))
	for range 100000 {
		b := make([]byte, turn.Intn(12))
		for i := range b {
			b[i] = byte(turn.Intn(256))
			if turn.Intn(4) > 0 {
				b[i] = byte(turn.Intn(8))
			}
		}
		checkGetAct(t, "some bytes", b)
	}
}

func TestPutActs(t *testing.T) {
	for _, x := range []struct {
		why  string
		l    acts
		want string
	}{
		{"nil", nil, ""},
		{"none", acts{}, ""},
		{"one", acts{nextAct()}, "\x04\x03\x00\x00\x00" + wantSum("\x03\x00\x00\x00")},
		{"two", acts{anewAct(), passAct(300)}, "\x04\x07\x00\x00\x00" + wantSum("\x07\x00\x00\x00") + "\x05\x06\xac\x02\x00\x00" + wantSum("\x06\xac\x02\x00\x00")},
		{"two that are alike", acts{nextAct(), nextAct()}, wantFrame("\x03\x00\x00\x00") + wantFrame("\x03\x00\x00\x00")},
		{"the zero one alone", acts{{}}, ""},
		{"wrong ones alone", acts{doneAct(""), passAct(0), {Kind: 8}}, ""},
		{"a wrong one ahead", acts{passAct(0), nextAct()}, wantFrame("\x03\x00\x00\x00")},
		{"a wrong one behind", acts{nextAct(), passAct(0)}, wantFrame("\x03\x00\x00\x00")},
		{"wrong ones between", acts{nextAct(), {}, passAct(10001), doneAct("u"), foundAct("u", 1001), anewAct()}, wantFrame("\x03\x00\x00\x00") + wantFrame("\x04\x00\x01u\x00") + wantFrame("\x07\x00\x00\x00")},
		{"a frame of two groups", acts{doneAct(xs(124))}, "\x80\x01\x04\x00\x7c" + xs(124) + "\x00" + wantSum("\x04\x00\x7c"+xs(124)+"\x00")},
	} {
		if b := impl.PutActs(x.l); string(b) != x.want {
			t.Errorf("%s: PutActs(%s) = %.60x; want %.60x", x.why, actsText(x.l), b, x.want)
		}
	}
}

func allRightActs() acts {
	l := acts{}
	for _, x := range rightActs {
		l = append(l, x.a)
	}
	return l
}

// withWrong has a wrong act at each place.
func withWrong(l acts) acts {
	mixed := acts{}
	for i, a := range l {
		mixed = append(mixed, wrongActs[i%len(wrongActs)].a, a)
	}
	return append(mixed, impl.Act{})
}

func TestListsOfActsComeBack(t *testing.T) {
	turn := rand.New(rand.NewSource(173))
	lists := []acts{{}, allRightActs(), slices.Repeat(acts{nextAct()}, 300)}
	for range 300 {
		lists = append(lists, someActs(turn, 12, someRightAct))
	}
	for _, l := range lists {
		want := wantActs(l)
		for _, given := range []acts{l, withWrong(l)} {
			b := impl.PutActs(given)
			if string(b) != want {
				t.Errorf("PutActs(%s) = %.60x; want %.60x", actsText(given), b, want)
			}
			if got, at := impl.ReadActs(b); !slices.Equal(got, l) || at != len(b) {
				t.Errorf("of PutActs(%s) comes %s, %d; want %s, %d", actsText(given), actsText(got), at, actsText(l), len(b))
			}
		}
	}
	for range 1000 {
		l := someActs(turn, 8, someAct)
		b := impl.PutActs(l)
		right := slices.DeleteFunc(slices.Clone(l), func(a impl.Act) bool { return !wantActOk(a) })
		if got, at := impl.ReadActs(b); string(b) != wantActs(l) || !slices.Equal(got, right) || at != len(b) {
			t.Errorf("of PutActs(%s) comes %s, %d; want %s, %d", actsText(l), actsText(got), at, actsText(right), len(b))
		}
	}
}

func TestReadActsOfNothing(t *testing.T) {
	for _, b := range [][]byte{nil, {}, make([]byte, 0, 9)} {
		if l, at := impl.ReadActs(b); len(l) != 0 || at != 0 {
			t.Errorf("ReadActs of no bytes = %s, %d; want none, 0", actsText(l), at)
		}
	}
}

// placesOf are those behind each of the acts, and 0 ahead.
func placesOf(l acts) []int {
	places := []int{0}
	for i := range l {
		places = append(places, places[i]+len(wantActs(l[i:i+1])))
	}
	return places
}

// tornActs are lists whose bytes are torn at each place.
func tornActs() []acts {
	inner := wantFrame(wantAct(nextAct()))
	return []acts{
		{nextAct()},
		shortActs(),
		slices.Repeat(acts{anewAct()}, 6),
		{doneAct(xs(123)), doneAct(xs(124)), doneAct(xs(125)), passAct(127), passAct(128)},
		{foundAct(inner, 1), robotsAct(inner+inner, inner, 7), doneAct(inner), backAct("u" + inner)},
		{foundAct(strings.Repeat("\x00", 8), 0), robotsAct("\x00\x00\x00\x00", strings.Repeat("\x00", 60), 1), passAct(1)},
		{foundAct(xs(2000), 1000), nextAct(), robotsAct(xs(2000), xs(2000), 1000000), nextAct()},
	}
}

// Of every beginning come the acts that are there whole, whether what is
// lacking lies in the room behind or not.
func TestTornActs(t *testing.T) {
	for _, l := range tornActs() {
		whole, places := impl.PutActs(l), placesOf(l)
		many := 0
		for end := 0; end <= len(whole); end++ {
			for many < len(l) && places[many+1] <= end {
				many++
			}
			for _, b := range [][]byte{whole[:end], slices.Clone(whole[:end])} {
				got, at := impl.ReadActs(b)
				if !slices.Equal(got, l[:many]) || at != places[many] {
					t.Errorf("of %d of %d bytes of %s comes %s, %d; want the first %d, %d", end, len(whole), actsText(l), actsText(got), at, many, places[many])
				}
			}
		}
		if many != len(l) || places[many] != len(whole) {
			t.Errorf("PutActs(%s) has %d bytes; want %d", actsText(l), len(whole), places[len(l)])
		}
	}
}

func TestTornBeginningsOfSome(t *testing.T) {
	turn := rand.New(rand.NewSource(174))
	for range 200 {
		l := someActs(turn, 6, someRightAct)
		whole, places := impl.PutActs(l), placesOf(l)
		for range 40 {
			end := turn.Intn(len(whole) + 1)
			many, _ := slices.BinarySearch(places, end+1)
			got, at := impl.ReadActs(whole[:end])
			if !slices.Equal(got, l[:many-1]) || at != places[many-1] {
				t.Errorf("of %d of %d bytes of %s comes %s, %d; want the first %d, %d", end, len(whole), actsText(l), actsText(got), at, many-1, places[many-1])
			}
		}
	}
}

// What stands behind a torn one counts no more.
func TestTornActsWithOthersBehind(t *testing.T) {
	behind := impl.PutActs(acts{anewAct(), nextAct(), doneAct("u")})
	for _, l := range tornActs()[:6] {
		whole, places := impl.PutActs(l), placesOf(l)
		many := 0
		for end := 1; end < len(whole); end++ {
			if places[many+1] == end {
				many++
				continue
			}
			b := slices.Concat(whole[:end], behind)
			if got, at := impl.ReadActs(b); !slices.Equal(got, l[:many]) || at != places[many] {
				t.Errorf("of %d of %d bytes of %s, and others behind, comes %s, %d; want the first %d, %d", end, len(whole), actsText(l), actsText(got), at, many, places[many])
			}
		}
	}
}

func TestActsWithATurnedBit(t *testing.T) {
	for _, l := range tornActs()[:6] {
		b, places := impl.PutActs(l), placesOf(l)
		many := 0
		for i := range b {
			if i == places[many+1] {
				many++
			}
			for bit := range 8 {
				b[i] ^= 1 << bit
				if got, at := impl.ReadActs(b); !slices.Equal(got, l[:many]) || at != places[many] {
					t.Errorf("of %s with a bit of byte %d turned comes %s, %d; want the first %d, %d", actsText(l), i, actsText(got), at, many, places[many])
				}
				b[i] ^= 1 << bit
			}
		}
		if got, at := impl.ReadActs(b); !slices.Equal(got, l) || at != len(b) {
			t.Errorf("of PutActs(%s) comes %s, %d", actsText(l), actsText(got), at)
		}
	}
}

// The Crc is of the body alone. Where a text holds what another act needs, a
// bit of the number makes that one: by the document's words it is there whole.
func TestANumberTurnedIntoAnotherAct(t *testing.T) {
	inner := "\x01\x01\x14\x93\x01" + xs(18) + "\x00"
	whole := foundAct(xs(18)+"\x00"+wantSum(inner)+xs(124), 20)
	b := impl.PutActs(acts{whole, nextAct()})
	checkReadActs(t, "as it was written", b)
	if b[0] != byte(128+len(inner)) || b[1] != 1 {
		t.Fatalf("the number is %x; want one of %d and a group more", b[:2], len(inner))
	}
	b[0] -= 128
	if l, at := impl.ReadActs(b); !slices.Equal(l, acts{foundAct("\x93\x01"+xs(18), 1)}) || at != len(wantFrame(inner)) {
		t.Errorf("ReadActs(%.60x) = %s, %d", b, actsText(l), at)
	}
	checkReadActs(t, "a bit of the number turned", b)
}

func TestReadActsOfSomeBytes(t *testing.T) {
	turn := rand.New(rand.NewSource(175))
	for range 20000 {
		b := []byte(wantActs(someActs(turn, 3, someRightAct)))
		switch turn.Intn(5) {
		case 0:
			b = b[:turn.Intn(len(b)+1)]
		case 1:
			b = append(b, someBytes(turn, 20)...)
		case 2:
			b = append(b, wantFrame(someBytes(turn, 20))...)
		case 3:
			b = append(b, wantFrame(toldAct(someAct(turn)))...)
		case 4:
			if len(b) > 0 {
				b[turn.Intn(len(b))] = byte(turn.Intn(256))
			}
		}
		checkReadActs(t, "some bytes", append(b, wantActs(someActs(turn, 2, someRightAct))...))
	}
	eachText("\x00\x01\x04\x80", 6, func(s string) {
		checkReadActs(t, "small", []byte(s))
		checkReadActs(t, "small, behind an act", []byte(wantActs(acts{nextAct()})+s))
		checkReadActs(t, "small, in a frame", []byte(wantFrame(s)+wantActs(acts{nextAct()})))
	})
}

func TestActsLeaveTheirArgument(t *testing.T) {
	for _, l := range append(tornActs(), withWrong(allRightActs()), acts{}) {
		room := append(slices.Clone(l), nextAct(), impl.Act{}, foundAct("behind", 7))
		was := slices.Clone(room)
		given := room[:len(l)]
		for _, a := range given {
			impl.ActOk(a)
			impl.PutAct(a)
		}
		if b := impl.PutActs(given); string(b) != wantActs(l) {
			t.Errorf("PutActs(%s) reads behind its argument: %.60x", actsText(l), b)
		}
		if !slices.Equal(room, was) {
			t.Errorf("of %s, and the room behind, has become %s", actsText(was), actsText(room))
		}
	}
	for _, x := range noActBytes {
		checkBytesAreLeft(t, x.b)
	}
	for _, x := range rightActs {
		checkBytesAreLeft(t, x.b)
	}
	for _, l := range tornActs() {
		checkBytesAreLeft(t, wantActs(l))
	}
}

func checkBytesAreLeft(t *testing.T, s string) {
	t.Helper()
	for _, told := range []string{s, wantFrame(s), wantActs(acts{nextAct()}) + s} {
		b, room := roomyBytes(told)
		was := slices.Clone(room)
		checkGetAct(t, "with room behind", b)
		checkReadActs(t, "with room behind", b)
		if !bytes.Equal(room, was) {
			t.Errorf("of %.60x, and the room behind, has become %.60x", was, room)
		}
	}
}

// liesInBytes is asked of what has bytes alone: an empty text may point
// anywhere.
func liesInBytes(s string, b []byte) bool {
	return s != "" && lies(s, unsafe.String(unsafe.SliceData(b), cap(b)))
}

func TestActsAnsweredAreNew(t *testing.T) {
	for _, x := range rightActs {
		a := impl.Act{Kind: x.a.Kind, Text: strings.Clone(x.a.Text), Body: strings.Clone(x.a.Body), N: x.a.N}
		for _, put := range [][]byte{impl.PutAct(a), impl.PutActs(acts{a})} {
			if liesInBytes(a.Text, put) || liesInBytes(a.Body, put) {
				t.Errorf("%s: what is put shares memory with the act", x.why)
			}
		}
		b := []byte(x.b)
		got, ok := impl.GetAct(b)
		if !ok || liesInBytes(got.Text, b) || liesInBytes(got.Body, b) {
			t.Errorf("%s: GetAct(%.60x) shares memory with what it was given, or fails", x.why, b)
		}
		clear(b)
		if got != x.a {
			t.Errorf("%s: what GetAct answered has become %s", x.why, actText(got))
		}
	}
	for _, l := range tornActs() {
		b := []byte(wantActs(l))
		got, _ := impl.ReadActs(b)
		for i, a := range got {
			if liesInBytes(a.Text, b) || liesInBytes(a.Body, b) {
				t.Errorf("act %d of ReadActs(%.60x) shares memory with what it was given", i, b)
			}
		}
		clear(b)
		if !slices.Equal(got, l) {
			t.Errorf("what ReadActs answered has become %s", actsText(got))
		}
	}
}

// What is answered, and all the room behind it, is the caller's to write into.
func TestActsKeepNothing(t *testing.T) {
	l := acts{foundAct("u", 1), {}, robotsAct("u", "b", 2)}
	right := acts{l[0], l[2]}
	whole := []byte(wantActs(l))
	for range 3 {
		put, none, all, nothing := impl.PutAct(l[0]), impl.PutAct(l[1]), impl.PutActs(l), impl.PutActs(l[1:2])
		if string(put) != wantAct(l[0]) || string(all) != string(whole) || len(none)+len(nothing) != 0 {
			t.Fatalf("%x, %x, %x, %x", put, none, all, nothing)
		}
		for _, b := range [][]byte{put, none, all, nothing} {
			for i := range b[:cap(b)] {
				b[:cap(b)][i] = 0xee
			}
		}
		got, at := impl.ReadActs(whole)
		torn, tornAt := impl.ReadActs(whole[:len(whole)-1])
		empty, emptyAt := impl.ReadActs(nil)
		if !slices.Equal(got, right) || at != len(whole) || !slices.Equal(torn, right[:1]) || tornAt != len(wantActs(right[:1])) || len(empty) != 0 || emptyAt != 0 {
			t.Fatalf("%s, %d, %s, %d, %s, %d", actsText(got), at, actsText(torn), tornAt, actsText(empty), emptyAt)
		}
		for _, answered := range []acts{got, torn, empty} {
			for i := range answered[:cap(answered)] {
				answered[:cap(answered)][i] = passAct(9)
			}
		}
	}
}

func TestVeryManyActs(t *testing.T) {
	many := slices.Repeat(acts{nextAct(), passAct(5), {}, doneAct("http://a.com/")}, 50000)
	soon(t, "a hundred and fifty thousand acts", func() bool {
		b := impl.PutActs(many)
		l, at := impl.ReadActs(b)
		return len(l) == 150000 && at == len(b) && l[149999] == doneAct("http://a.com/")
	}, true)
	five := strings.Repeat(allBytes(), 20000)
	soon(t, "a text of five million bytes", func() bool {
		a := doneAct(five)
		_, got := impl.GetAct([]byte(toldAct(a)))
		l, at := impl.ReadActs([]byte(wantFrame(toldAct(a))))
		return impl.ActOk(a) || len(impl.PutAct(a))+len(impl.PutActs(acts{a}))+len(l)+at > 0 || got
	}, false)
	soon(t, "five million bytes that are none", func() bool {
		_, got := impl.GetAct([]byte(five))
		l, at := impl.ReadActs([]byte(five))
		return got || len(l)+at > 0
	}, false)
}
