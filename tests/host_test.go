package tests

import (
	"math"
	"math/rand"
	"regexp"
	"strings"
	"testing"
	"unsafe"

	"loop.example/g00191/impl"
)

func nameHost(name string) impl.Host { return impl.Host{K: impl.HostName, Name: name} }

func fourHost(n int) impl.Host { return impl.Host{K: impl.HostFour, N: n} }

func sixHost(w [8]int) impl.Host { return impl.Host{K: impl.HostSix, W: w} }

// Names, and whether they end in a number.
var nameEnds = []struct {
	why, s string
	number bool
}{
	{"no bytes", "", false},
	{"a dot", ".", false},
	{"one digit", "7", true},
	{"one nought", "0", true},
	{"digits", "123", true},
	{"the last field is digits", "a.1", true},
	{"the last field is noughts", "a.000", true},
	{"digits that begin with 0", "a.08", true},
	{"more digits than any address has", "a." + strings.Repeat("9", 1000), true},
	{"2^64", "18446744073709551616", true},
	{"a dot ahead of digits", ".1", true},
	{"an empty field ahead of digits", "a..1", true},
	{"an empty last field", "a.", false},
	{"an empty last field behind a number", "a.1.", false},
	{"an empty last field behind 0x", "0x.", false},
	{"two empty last fields", "1..", false},
	{"a number that is not the last field", "1.a", false},
	{"numbers ahead of the last field", "1.2.3.a", false},
	{"a number that is neither first nor last", "a.1.b", false},
	{"0x alone", "0x", true},
	{"0X alone", "0X", true},
	{"0x alone in the last field", "a.0x", true},
	{"0X alone in the last field", "a.0X", true},
	{"0x and digits", "a.0x10", true},
	{"0x and hex digits", "a.0xabcdef", true},
	{"0x and great hex digits", "a.0xABCDEF", true},
	{"0X and both kinds", "0X1f2F", true},
	{"0x and very many hex digits", "0x" + strings.Repeat("f", 1000), true},
	{"0x and the letter behind f", "0xg", false},
	{"0x and the great letter behind F", "0xG", false},
	{"0x, hex digits, and none at the end", "0xabcg", false},
	{"0x, none, and hex digits", "0xgabc", false},
	{"0x and a minus", "0x-1", false},
	{"0x and a minus at the end", "0x1-", false},
	{"0x and a plus", "0x+1", false},
	{"0x twice", "0x0x", false},
	{"0x and a rune", "0xé", false},
	{"0x that is not the last field", "0x1.a", false},
	{"x alone", "x", false},
	{"x ahead of digits", "x1", false},
	{"two noughts ahead of x", "00x1", false},
	{"1 ahead of x", "1x1", false},
	{"hex digits without 0x", "a.ff", false},
	{"hex digits that begin with a digit", "1f", false},
	{"a minus ahead", "-1", false},
	{"a plus ahead", "+1", false},
	{"a minus behind", "1-", false},
	{"a blank ahead", " 1", false},
	{"a blank behind", "1 ", false},
	{"a letter behind digits", "123a", false},
	{"a letter ahead of digits", "a123", false},
	{"a letter within digits", "1a1", false},
	{"the byte ahead of 0", "a./", false},
	{"the byte behind 9", "a.1:", false},
	{"a percent that tells a digit", "%31", false},
	{"digits of another kind", "a.١", false},
	{"a dot of another kind", "a。1", false},
	{"a byte 0", "1\x00", false},
	{"a byte 255", "\xff", false},
	{"a byte 255 in the field ahead", "\xff.1", true},
	{"a blank in the field ahead", "a b.1", true},
}

// Hosts and their one text.
var rightHosts = []struct {
	why  string
	h    impl.Host
	text string
}{
	{"a name", nameHost("example.com"), "example.com"},
	{"a name of one label", nameHost("localhost"), "localhost"},
	{"a name of one byte", nameHost("a"), "a"},
	{"a coded name", nameHost("xn--bcher-kva.de"), "xn--bcher-kva.de"},
	{"a coded end", nameHost("a.xn--9ca"), "a.xn--9ca"},
	{"a name with hyphens", nameHost("a-b.c--d"), "a-b.c--d"},
	{"a name of MaxName bytes", nameHost(mostName), mostName},
	{"a name of numbers and a letter", nameHost("1.2.3.a"), "1.2.3.a"},
	{"a name with 0x ahead", nameHost("0x1.a"), "0x1.a"},
	{"a name that is nearly a number", nameHost("a.1a"), "a.1a"},
	{"a name that is nearly a number with 0x", nameHost("a.0xg"), "a.0xg"},
	{"a name that is hex digits", nameHost("dead.beef"), "dead.beef"},
	{"an address of four, 0", fourHost(0), "0.0.0.0"},
	{"an address of four, 1", fourHost(1), "0.0.0.1"},
	{"an address of four", fourHost(16909060), "1.2.3.4"},
	{"an address of four, the last", fourHost(ip4Last), "255.255.255.255"},
	{"an address of eight, noughts", sixHost([8]int{}), "[::]"},
	{"an address of eight, the last group", sixHost([8]int{7: 1}), "[::1]"},
	{"an address of eight, the first group", sixHost([8]int{1}), "[1::]"},
	{"an address of eight, two groups", sixHost([8]int{0: 1, 7: 1}), "[1::1]"},
	{"an address of eight", sixHost([8]int{1, 2, 3, 4, 5, 6, 7, 8}), "[1:2:3:4:5:6:7:8]"},
	{"an address of eight, the last", sixHost([8]int{65535, 65535, 65535, 65535, 65535, 65535, 65535, 65535}), "[ffff:ffff:ffff:ffff:ffff:ffff:ffff:ffff]"},
	{"an address of four within one of eight", sixHost([8]int{5: 65535, 6: 258, 7: 772}), "[::ffff:102:304]"},
}

// Hosts that are not right, and have no text.
var wrongHosts = []struct {
	why string
	h   impl.Host
}{
	{"the zero one", impl.Host{}},
	{"K of 0, with a name", impl.Host{Name: "a"}},
	{"K of 0, with N", impl.Host{N: 1}},
	{"K of 0, with W", impl.Host{W: [8]int{7: 1}}},
	{"K of 4", impl.Host{K: 4}},
	{"K of 4, with a name", impl.Host{K: 4, Name: "a"}},
	{"K of 4, with N", impl.Host{K: 4, N: 1}},
	{"K below 0", impl.Host{K: -1, Name: "a"}},
	{"K of 257", impl.Host{K: 257, Name: "a"}},
	{"K of 2^32 and HostName", impl.Host{K: 1<<32 + 1, Name: "a"}},
	{"the least K", impl.Host{K: math.MinInt}},
	{"the greatest K", impl.Host{K: math.MaxInt}},
	{"no name", nameHost("")},
	{"a great letter", nameHost("A")},
	{"a great letter at the end", nameHost("example.coM")},
	{"a dot at the end", nameHost("example.com.")},
	{"a dot alone", nameHost(".")},
	{"a dot ahead", nameHost(".a")},
	{"an empty label", nameHost("a..b")},
	{"a name that is not Ascii", nameHost("é.com")},
	{"a name coded in great letters", nameHost("XN--9CA.com")},
	{"a name that is no code", nameHost("xn--99999999")},
	{"a blank", nameHost("a b")},
	{"a line below", nameHost("a_b")},
	{"a hyphen at the end", nameHost("a-")},
	{"a percent", nameHost("%61")},
	{"a port", nameHost("a:80")},
	{"brackets", nameHost("[::1]")},
	{"one byte more than MaxName", nameHost(tooMuch)},
	{"one byte more than MaxLabel", nameHost(tooLong)},
	{"a name that ends in a number", nameHost("a.1")},
	{"a name that is a digit", nameHost("1")},
	{"a name that is an address of four", nameHost("1.2.3.4")},
	{"a name that is five numbers", nameHost("1.2.3.4.5")},
	{"a name that is a loose address", nameHost("0x7f.1")},
	{"a name that ends in 0x", nameHost("a.0x")},
	{"a name that ends in 0x and hex digits", nameHost("a.0xff")},
	{"a name that ends in no right number", nameHost("a.08")},
	{"a name with N", impl.Host{K: impl.HostName, Name: "a", N: 1}},
	{"a name with N below 0", impl.Host{K: impl.HostName, Name: "a", N: -1}},
	{"a name with a first group", impl.Host{K: impl.HostName, Name: "a", W: [8]int{1}}},
	{"a name with a last group", impl.Host{K: impl.HostName, Name: "a", W: [8]int{7: 1}}},
	{"N of 2^32", fourHost(ip4Last + 1)},
	{"N of 2^32 and 1", fourHost(ip4Last + 2)},
	{"N below 0", fourHost(-1)},
	{"N below 0 by 2^32", fourHost(-1 << 32)},
	{"the least N", fourHost(math.MinInt)},
	{"the greatest N", fourHost(math.MaxInt)},
	{"N with a name", impl.Host{K: impl.HostFour, N: 1, Name: "a"}},
	{"N with its own text as a name", impl.Host{K: impl.HostFour, N: 1, Name: "0.0.0.1"}},
	{"N with a first group", impl.Host{K: impl.HostFour, N: 1, W: [8]int{1}}},
	{"N with a last group", impl.Host{K: impl.HostFour, N: 1, W: [8]int{7: 1}}},
	{"groups with a name", impl.Host{K: impl.HostSix, W: [8]int{7: 1}, Name: "a"}},
	{"groups with N", impl.Host{K: impl.HostSix, W: [8]int{7: 1}, N: 1}},
	{"groups of 0 with N", impl.Host{K: impl.HostSix, N: 1}},
	{"groups of 0 with a name", impl.Host{K: impl.HostSix, Name: "::"}},
}

// Texts of hosts that HostText writes otherwise.
var otherHostTexts = []struct {
	why, s string
	h      impl.Host
}{
	{"great letters", "Example.COM", nameHost("example.com")},
	{"a dot at the end", "example.com.", nameHost("example.com")},
	{"a dot behind one label", "a.", nameHost("a")},
	{"a percent of a great letter", "%41.com", nameHost("a.com")},
	{"a percent of a small letter", "%61.com", nameHost("a.com")},
	{"percents alone", "%61%62%2e%63", nameHost("ab.c")},
	{"a percent of a hyphen", "a%2Db", nameHost("a-b")},
	{"a percent of a dot", "a%2Eb", nameHost("a.b")},
	{"a percent of a dot at the end", "a%2e", nameHost("a")},
	{"runes that are not Ascii", "é.com", nameHost("xn--9ca.com")},
	{"runes that are not Ascii, by percents", "%C3%A9.com", nameHost("xn--9ca.com")},
	{"half a rune by a percent", "\xc3%a9.com", nameHost("xn--9ca.com")},
	{"runes and great letters", "BÜCHER.de", nameHost("xn--bcher-2pa.de")},
	{"coded, in great letters", "XN--BCHER-KVA.DE", nameHost("xn--bcher-kva.de")},
	{"coded, by a percent", "xn%2d-bcher-kva.de", nameHost("xn--bcher-kva.de")},
	{"digits of another kind", "a.１", nameHost("a.xn--8g7c")},
	{"a dot of another kind", "1。2", nameHost("xn--12-r13a")},
	{"one past MaxName as it is given", mostName + ".", nameHost(mostName)},
	{"MaxName bytes by percents", strings.ReplaceAll(mostName, "b", "%62"), nameHost(mostName)},
	{"a name that ends in no number, a dot", "1.a.", nameHost("1.a")},
	{"one part", "1", fourHost(1)},
	{"one part, 0", "0", fourHost(0)},
	{"one part, all that it may be", "4294967295", fourHost(ip4Last)},
	{"two parts", "1.2", fourHost(16777218)},
	{"three parts", "1.2.3", fourHost(16908291)},
	{"four parts and a dot", "1.2.3.4.", fourHost(16909060)},
	{"two parts and a dot", "127.1.", fourHost(2130706433)},
	{"0x in a part", "0x7f.1", fourHost(2130706433)},
	{"0X in a part", "0X7F.1", fourHost(2130706433)},
	{"0x in the last part", "127.0x1", fourHost(2130706433)},
	{"0x alone", "0x", fourHost(0)},
	{"0X alone and a dot", "0X.", fourHost(0)},
	{"0x in one part", "0xFFFFFFFF", fourHost(ip4Last)},
	{"eights", "0177.0.0.01", fourHost(2130706433)},
	{"needless noughts", "00.0.0.0", fourHost(0)},
	{"a percent of a digit", "%31.2.3.4", fourHost(16909060)},
	{"a percent of a dot between numbers", "1%2e2.3.4", fourHost(16909060)},
	{"a percent of a dot behind a number", "1%2E", fourHost(1)},
	{"a percent of an x", "0%787f.1", fourHost(2130706433)},
	{"a percent of a great X", "0%587F.1", fourHost(2130706433)},
	{"noughts told one by one", "[1:0:0:0:0:0:0:1]", sixHost([8]int{0: 1, 7: 1})},
	{"needless noughts in groups", "[0001::0001]", sixHost([8]int{0: 1, 7: 1})},
	{"great hex digits", "[ABCD::]", sixHost([8]int{43981})},
	{"an address of four at the end", "[::ffff:1.2.3.4]", sixHost([8]int{5: 65535, 6: 258, 7: 772})},
	{":: for one group", "[1:2:3:4:5:6:7::]", sixHost([8]int{1, 2, 3, 4, 5, 6, 7, 0})},
}

// Texts that are no host's.
var noHostTexts = []struct {
	why, s string
	fault  int
}{
	{"no bytes", "", impl.HostEmpty},

	{"[ alone", "[", impl.HostBracket},
	{"[ without ]", "[::1", impl.HostBracket},
	{"[ without ], a name behind", "[a", impl.HostBracket},
	{"nothing between brackets", "[]", impl.HostBracket},
	{"a blank between brackets", "[ ]", impl.HostBracket},
	{"two [", "[[", impl.HostBracket},
	{"two [ and a ]", "[[::1]", impl.HostBracket},
	{"two ] at the end", "[::1]]", impl.HostBracket},
	{"two of each", "[[::1]]", impl.HostBracket},
	{"] that is not at the end", "[::1]a", impl.HostBracket},
	{"] ahead of a port", "[::1]:80", impl.HostBracket},
	{"] ahead of a dot", "[::1].", impl.HostBracket},
	{"] ahead of a blank", "[::1] ", impl.HostBracket},
	{"] in the midst and at the end", "[::1]::1]", impl.HostBracket},
	{"] ahead of all else", "[]::1", impl.HostBracket},
	{"] ahead of all else and at the end", "[]::1]", impl.HostBracket},
	{"two in a row", "[::1][::1]", impl.HostBracket},
	{"a colon between brackets", "[:]", impl.HostBracket},
	{"three colons between brackets", "[:::]", impl.HostBracket},
	{"seven groups", "[1:2:3:4:5:6:7]", impl.HostBracket},
	{"nine groups", "[1:2:3:4:5:6:7:8:9]", impl.HostBracket},
	{"a group of five digits", "[::10000]", impl.HostBracket},
	{"an address of four between brackets", "[1.2.3.4]", impl.HostBracket},
	{"a loose address of four at the end", "[::0x7f.1]", impl.HostBracket},
	{"a name between brackets", "[example.com]", impl.HostBracket},
	{"a zone", "[fe80::1%25eth0]", impl.HostBracket},
	{"a later form of address", "[v1.a]", impl.HostBracket},
	{"percents between brackets", "[%3A%3A1]", impl.HostBracket},
	{"a percent of a digit between brackets", "[::%31]", impl.HostBracket},
	{"a percent of ]", "[::1%5D", impl.HostBracket},
	{"a percent of ] ahead of one", "[::1%5D]", impl.HostBracket},
	{"a byte 10 behind ]", "[::1]\n", impl.HostBracket},
	{"a byte 255 between brackets", "[\xff]", impl.HostBracket},

	{"a blank", " ", impl.HostLabel},
	{"a blank within", "a b", impl.HostLabel},
	{"a blank ahead of [", " [::1]", impl.HostLabel},
	{"a percent of [", "%5B::1]", impl.HostLabel},
	{"percents of both brackets", "%5b::1%5d", impl.HostLabel},
	{"a percent of [ alone", "%5B", impl.HostLabel},
	{"] alone", "]", impl.HostLabel},
	{"] at the end of a name", "a]", impl.HostLabel},
	{"[ that is not ahead", "a[::1]", impl.HostLabel},
	{"an address of eight without brackets", "::1", impl.HostLabel},
	{"a percent without digits", "%", impl.HostLabel},
	{"a percent without digits behind a name", "example.com%", impl.HostLabel},
	{"a percent with one digit", "a%4", impl.HostLabel},
	{"a percent with no hex digits", "%zz", impl.HostLabel},
	{"a percent with one hex digit", "%4g", impl.HostLabel},
	{"a percent ahead of a number", "%.1", impl.HostLabel},
	{"a percent of a percent", "%25", impl.HostLabel},
	{"a percent of a percent of a letter", "%2541", impl.HostLabel},
	{"a percent of a blank", "a%20b", impl.HostLabel},
	{"a percent of a slash", "a%2Fb", impl.HostLabel},
	{"a percent of a colon", "a%3A80", impl.HostLabel},
	{"a percent of an at", "a%40b", impl.HostLabel},
	{"a percent of a byte 0", "a%00", impl.HostLabel},
	{"a percent of half a rune", "a%C3", impl.HostLabel},
	{"a percent of a byte 255", "%FF", impl.HostLabel},
	{"a percent of a line below", "a%5Fb", impl.HostLabel},
	{"a percent of a dot alone", "%2E", impl.HostLabel},
	{"a percent of a dot ahead", "%2Ea", impl.HostLabel},
	{"two percents of dots at the end", "a%2E%2E", impl.HostLabel},
	{"a dot and a percent of one at the end", "a.%2E", impl.HostLabel},
	{"a percent of a hyphen at the end", "a%2D", impl.HostLabel},
	{"a dot", ".", impl.HostLabel},
	{"a dot ahead", ".a", impl.HostLabel},
	{"a dot ahead of a number", ".1", impl.HostLabel},
	{"an empty label", "a..b", impl.HostLabel},
	{"an empty label ahead of a number", "1..2", impl.HostLabel},
	{"two dots at the end", "a..", impl.HostLabel},
	{"two dots behind an address of four", "1.2.3.4..", impl.HostLabel},
	{"a hyphen", "-", impl.HostLabel},
	{"a number below 0", "-1", impl.HostLabel},
	{"a number with a plus", "+1", impl.HostLabel},
	{"a port", "example.com:80", impl.HostLabel},
	{"a port behind an address of four", "1.2.3.4:80", impl.HostLabel},
	{"a line below ahead of a number", "a_b.1", impl.HostLabel},
	{"no code", "xn--99999999", impl.HostLabel},
	{"no code ahead of a number", "xn--99999999.1", impl.HostLabel},
	{"no runes", "\xff", impl.HostLabel},
	{"one byte more than MaxName", tooMuch, impl.HostLabel},
	{"one byte more than MaxName, a number", "1" + strings.Repeat(".1", 126) + "1", impl.HostLabel},
	{"one byte more than MaxLabel", tooLong, impl.HostLabel},
	{"one digit more than MaxLabel", strings.Repeat("1", 64), impl.HostLabel},
	{"very many bytes", strings.Repeat("a.", 1<<18), impl.HostLabel},

	{"the last label is a number", "a.256", impl.HostNumber},
	{"the last label is a small number", "a.1", impl.HostNumber},
	{"the last label is a number, a dot", "a.1.", impl.HostNumber},
	{"the last label is 0x", "a.0x", impl.HostNumber},
	{"the last label is 0X", "a.0X", impl.HostNumber},
	{"the last label is 0x and hex digits", "a.0xff", impl.HostNumber},
	{"the last label is a number by percents", "a.%31", impl.HostNumber},
	{"a dot by a percent ahead of a number", "a%2E1", impl.HostNumber},
	{"a coded label ahead of a number", "é.1", impl.HostNumber},
	{"five numbers", "1.2.3.4.5", impl.HostNumber},
	{"five numbers and a dot", "1.2.3.4.5.", impl.HostNumber},
	{"four numbers, the last too great", "1.2.3.256", impl.HostNumber},
	{"four numbers, the first too great", "256.2.3.4", impl.HostNumber},
	{"four, one of them hex digits without 0x", "1.2.f.4", impl.HostNumber},
	{"four, one of them no hex digits", "1.0xg.3.4", impl.HostNumber},
	{"one number, one too many", "4294967296", impl.HostNumber},
	{"one number of MaxLabel digits", strings.Repeat("1", 63), impl.HostNumber},
	{"one number of MaxLabel noughts", strings.Repeat("0", 63), impl.HostNumber},
	{"0x and 9 hex digits", "0x100000000", impl.HostNumber},
	{"0x and 61 noughts", "0x" + strings.Repeat("0", 61), impl.HostNumber},
	{"neither to eight nor to ten", "08", impl.HostNumber},
	{"neither to eight nor to ten, at the end", "1.2.3.09", impl.HostNumber},
	{"a number of MaxName bytes", "1" + strings.Repeat(".1", 126), impl.HostNumber},
}

var numberEnd = regexp.MustCompile(`(\A|\.)([0-9]+|0[xX][0-9a-fA-F]*)\z`)

func wantUnpercent(s string) string {
	var text strings.Builder
	for s != "" {
		piece, c := percentPiece(s)
		s = s[len(piece):]
		if c >= 0 {
			piece = oneByte(c)
		}
		text.WriteString(piece)
	}
	return text.String()
}

// wantHost is chapter 6's ParseHost, by the other chapters as these tests tell
// them.
func wantHost(s string) (impl.Host, int) {
	if s == "" {
		return impl.Host{}, 1
	}
	if strings.HasPrefix(s, "[") {
		if w, ok := wantIp6(strings.TrimSuffix(s[1:], "]")); ok && strings.HasSuffix(s, "]") {
			return impl.Host{K: 3, W: w}, 0
		}
		return impl.Host{}, 2
	}
	name, ok := wantName(wantUnpercent(s))
	if !ok {
		return impl.Host{}, 3
	}
	if !numberEnd.MatchString(name) {
		return impl.Host{K: 1, Name: name}, 0
	}
	if n, ok := wantLoose(name); ok {
		return impl.Host{K: 2, N: n}, 0
	}
	return impl.Host{}, 4
}

// wantHostText asks kind by kind for what it names, and for noughts elsewhere.
func wantHostText(h impl.Host) string {
	text := ""
	switch h.K {
	case 1:
		if name, ok := wantName(h.Name); ok && name == h.Name && !numberEnd.MatchString(name) {
			text = name
		}
		h.Name = ""
	case 2:
		text = wantIp4Text(h.N)
		h.N = 0
	case 3:
		if text = wantIp6Text(h.W); text != "" {
			text = "[" + text + "]"
		}
		h.W = [8]int{}
	}
	h.K = 0
	if h != (impl.Host{}) {
		return ""
	}
	return text
}

// checkHost holds a host against a telling of its own, and against the promise.
func checkHost(t *testing.T, h impl.Host) {
	t.Helper()
	want := wantHostText(h)
	text := impl.HostText(h)
	if text != want || impl.HostOk(h) != (want != "") {
		t.Fatalf("HostText(%+v) = %q, HostOk %v; want %q", h, text, impl.HostOk(h), want)
	}
	if want == "" {
		return
	}
	if back, fault := impl.ParseHost(text); fault != impl.HostGood || back != h {
		t.Fatalf("ParseHost(%q) = %+v, %d; want %+v", text, back, fault, h)
	}
}

func checkHostText(t *testing.T, s string) {
	t.Helper()
	if got := impl.EndsInNumber(s); got != numberEnd.MatchString(s) {
		t.Fatalf("EndsInNumber(%q) = %v", s, got)
	}
	want, wantFault := wantHost(s)
	h, fault := impl.ParseHost(s)
	if h != want || fault != wantFault {
		t.Fatalf("ParseHost(%q) = %+v, %d; want %+v, %d", s, h, fault, want, wantFault)
	}
	if impl.HostOk(h) != (fault == impl.HostGood) {
		t.Fatalf("ParseHost(%q) = %+v, %d, and it is HostOk: %v", s, h, fault, impl.HostOk(h))
	}
	checkHost(t, h)
	checkHost(t, nameHost(s))
}

func TestHostKindsAndFaultsHaveTheirNumbers(t *testing.T) {
	if impl.HostName != 1 || impl.HostFour != 2 || impl.HostSix != 3 {
		t.Error(impl.HostName, impl.HostFour, impl.HostSix)
	}
	if impl.HostGood != 0 || impl.HostEmpty != 1 || impl.HostBracket != 2 || impl.HostLabel != 3 || impl.HostNumber != 4 {
		t.Error(impl.HostGood, impl.HostEmpty, impl.HostBracket, impl.HostLabel, impl.HostNumber)
	}
}

func TestEndsInNumber(t *testing.T) {
	for _, x := range nameEnds {
		if got := impl.EndsInNumber(x.s); got != x.number {
			t.Errorf("%s: EndsInNumber(%q) = %v", x.why, x.s, got)
		}
		if got := numberEnd.MatchString(x.s); got != x.number {
			t.Errorf("%s: the tests' own form tells %v of %q", x.why, got, x.s)
		}
	}
}

func TestEndsInNumberOfEveryByte(t *testing.T) {
	for c := range 256 {
		b := oneByte(c)
		digit, hex := '0' <= c && c <= '9', wantDigit(byte(c)) >= 0
		for _, x := range []struct {
			s    string
			want bool
		}{
			{b, digit}, {"a." + b, digit}, {"1" + b, digit || b == "."}, {b + "1", digit || b == "."},
			{"0" + b, digit || b == "x" || b == "X"}, {"0" + b + "f", b == "x" || b == "X"},
			{"0x" + b, hex}, {"a.0X" + b, hex}, {"0xf" + b + "9", hex || b == "."}, {b + ".1", true}, {"1." + b + "a", false},
		} {
			// A dot ends a field, and begins one of its own.
			if b == "." && strings.HasSuffix(x.s, ".") {
				x.want = false
			}
			if got := impl.EndsInNumber(x.s); got != x.want {
				t.Errorf("EndsInNumber(%q) = %v", x.s, got)
			}
		}
	}
}

func TestRightHosts(t *testing.T) {
	for _, x := range rightHosts {
		if !impl.HostOk(x.h) {
			t.Errorf("%s: not HostOk: %+v", x.why, x.h)
		}
		if text := impl.HostText(x.h); text != x.text {
			t.Errorf("%s: HostText(%+v) = %q; want %q", x.why, x.h, text, x.text)
		}
		if h, fault := impl.ParseHost(x.text); h != x.h || fault != impl.HostGood {
			t.Errorf("%s: ParseHost(%q) = %+v, %d; want %+v", x.why, x.text, h, fault, x.h)
		}
		checkHostText(t, x.text)
	}
}

func TestWrongHosts(t *testing.T) {
	for _, x := range wrongHosts {
		if impl.HostOk(x.h) {
			t.Errorf("%s: HostOk: %+v", x.why, x.h)
		}
		if text := impl.HostText(x.h); text != "" {
			t.Errorf("%s: HostText(%+v) = %q", x.why, x.h, text)
		}
		checkHost(t, x.h)
	}
}

func TestOtherHostTexts(t *testing.T) {
	for _, x := range otherHostTexts {
		if h, fault := impl.ParseHost(x.s); h != x.h || fault != impl.HostGood {
			t.Errorf("%s: ParseHost(%q) = %+v, %d; want %+v", x.why, x.s, h, fault, x.h)
		}
		if text := impl.HostText(x.h); text == x.s || text == "" {
			t.Errorf("%s: HostText(%+v) = %q", x.why, x.h, text)
		}
		checkHostText(t, x.s)
	}
}

func TestNoHostTexts(t *testing.T) {
	for _, x := range noHostTexts {
		if h, fault := impl.ParseHost(x.s); h != (impl.Host{}) || fault != x.fault {
			t.Errorf("%s: ParseHost = %+v, %d; want %d", x.why, h, fault, x.fault)
		}
	}
}

// A host's other fields have to be zero, each of them.
func TestHostsWithOneFieldMore(t *testing.T) {
	for _, x := range rightHosts {
		for _, n := range []int{-1, 0, 1, 65535, 65536, ip4Last, ip4Last + 1, math.MinInt, math.MaxInt} {
			h := x.h
			h.N = n
			checkHost(t, h)
			h = x.h
			h.K = n
			checkHost(t, h)
			for at := range h.W {
				h = x.h
				h.W[at] = n
				checkHost(t, h)
			}
		}
		for _, name := range []string{"", "a", "1", "A", x.text, ".", "\x00"} {
			h := x.h
			h.Name = name
			checkHost(t, h)
		}
		for k := range 6 {
			h := x.h
			h.K = k - 1
			checkHost(t, h)
		}
	}
}

func TestHostsOfNumbersAtTheBounds(t *testing.T) {
	for _, x := range []struct {
		n  int
		ok bool
	}{{0, true}, {ip4Last - 1, true}, {ip4Last, true}, {ip4Last + 1, false}, {-1, false}} {
		if impl.HostOk(fourHost(x.n)) != x.ok {
			t.Errorf("HostOk of N %d: %v", x.n, !x.ok)
		}
	}
	for at := range 8 {
		for _, x := range []struct {
			n  int
			ok bool
		}{{0, true}, {1, true}, {65535, true}, {65536, false}, {-1, false}, {1 << 32, false}, {math.MinInt, false}, {math.MaxInt, false}} {
			for _, w := range [][8]int{{}, {1, 2, 3, 4, 5, 6, 7, 8}} {
				w[at] = x.n
				if impl.HostOk(sixHost(w)) != x.ok {
					t.Errorf("HostOk of %v: %v", w, !x.ok)
				}
				checkHost(t, sixHost(w))
			}
		}
	}
}

// The texts of the chapters below, as hosts and in brackets.
func TestHostsOfTheTextsBelow(t *testing.T) {
	texts := []string{}
	for _, x := range rightNames {
		texts = append(texts, x.s, x.name)
	}
	for _, x := range rightLabels {
		texts = append(texts, x.s, x.s+".1", x.s+".a")
	}
	for _, x := range wrongLabels {
		texts = append(texts, x.s+".com")
	}
	for _, x := range ip4Texts {
		texts = append(texts, x.s, x.s+".")
	}
	for _, x := range looseTexts {
		texts = append(texts, x.s, strings.ToUpper(x.s), "a."+x.s)
	}
	for _, x := range ip6Texts {
		texts = append(texts, x.s, "["+x.s+"]", "["+x.s, x.s+"]", "["+x.s+"] ")
	}
	for _, x := range otherIp6Texts {
		texts = append(texts, x.s, "["+x.s+"]", "["+x.s)
	}
	for _, x := range noIp6Texts {
		if len(x.s) < 1000 {
			texts = append(texts, "["+x.s+"]", x.s)
		}
	}
	for _, s := range texts {
		checkHostText(t, s)
		if len(s) < 1000 {
			checkHostText(t, percentAll(s))
		}
	}
}

// percentAll tells every byte by its percent.
func percentAll(s string) string {
	text := ""
	for _, c := range []byte(s) {
		text += wantPercent(int(c), smallDigits)
	}
	return text
}

func TestHostOfEveryByte(t *testing.T) {
	for c := range 256 {
		for _, b := range []string{oneByte(c), wantPercent(c, smallDigits), wantPercent(c, greatDigits)} {
			for _, s := range []string{b, "a" + b, b + "a", "a" + b + "a", b + ".a", "a." + b, "1" + b, "1" + b + "2", "1.2.3." + b, "0" + b, "0" + b + "1", b + "::1]", "[::1" + b, "[" + b + "]", "[::" + b + "]", "[::1]" + b, b + "[::1]"} {
				checkHostText(t, s)
			}
		}
	}
}

func TestHostOfEveryShortText(t *testing.T) {
	eachText("10xXfG.-", 5, func(s string) { checkHostText(t, s) })
	eachText("[]:1", 7, func(s string) { checkHostText(t, s) })
	eachText("%2E5Ba.", 5, func(s string) { checkHostText(t, s) })
	eachText("1a.", 8, func(s string) { checkHostText(t, s) })
}

func TestHostsOfManyTexts(t *testing.T) {
	turn := rand.New(rand.NewSource(7))
	pieces := []string{"a", "B", "1", "0", "255", "256", "65535", "0x", "0X", "ff", "g", ".", ".", ".", ":", ":", "::", "[", "]", "%", "%41", "%2e", "%5b", "%31", "%C3%A9", "é", "-", "xn--", "9ca", " ", "\xff"}
	for range 100000 {
		s := ""
		for range turn.Intn(9) {
			s += pieces[turn.Intn(len(pieces))]
		}
		checkHostText(t, s)
	}
}

func TestHostsOfManyNumbers(t *testing.T) {
	turn := rand.New(rand.NewSource(8))
	for range 20000 {
		checkHost(t, fourHost(turn.Intn(ip4Last+1)))
		var w [8]int
		for i := range w {
			w[i] = turn.Intn(65536) * turn.Intn(2)
		}
		checkHost(t, sixHost(w))
	}
}

func TestHostTextsAreNewMemory(t *testing.T) {
	for _, s := range []string{"example.com", "a", mostName, "1.2.3.4", "[1:2:3:4:5:6:7:8]"} {
		s = strings.Clone(s)
		h, _ := impl.ParseHost(s)
		if lies(h.Name, s) {
			t.Errorf("the name of %q lies in its argument's memory", s)
		}
		if text := impl.HostText(h); len(text) > 1 && h.Name != "" && lies(text, h.Name) {
			t.Errorf("the text of %q lies in its argument's memory", s)
		}
	}
}

// lies tells whether a text lies in the memory of another one.
func lies(s, in string) bool {
	from := uintptr(unsafe.Pointer(unsafe.StringData(in)))
	at := uintptr(unsafe.Pointer(unsafe.StringData(s)))
	return from <= at && at < from+uintptr(len(in))
}
