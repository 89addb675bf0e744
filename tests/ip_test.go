package tests

import (
	"math"
	"math/rand"
	"net/netip"
	"regexp"
	"strconv"
	"strings"
	"testing"
	"unsafe"

	"loop.example/g00191/impl"
)

const ip4Last = 4294967295

// Addresses of four: a number and its one text.
var ip4Texts = []struct {
	n int
	s string
}{
	{0, "0.0.0.0"},
	{1, "0.0.0.1"},
	{9, "0.0.0.9"},
	{10, "0.0.0.10"},
	{255, "0.0.0.255"},
	{256, "0.0.1.0"},
	{65535, "0.0.255.255"},
	{65536, "0.1.0.0"},
	{16777215, "0.255.255.255"},
	{16777216, "1.0.0.0"},
	{16909060, "1.2.3.4"},
	{2130706433, "127.0.0.1"},
	{2147483647, "127.255.255.255"},
	{2147483648, "128.0.0.0"},
	{3221225985, "192.0.2.1"},
	{3232235777, "192.168.1.1"},
	{4294967040, "255.255.255.0"},
	{4294967294, "255.255.255.254"},
	{ip4Last, "255.255.255.255"},
}

var noIp4 = []int{-1, -16777216, ip4Last + 1, ip4Last + 2, 1 << 33, 1<<40 + 1, -1 << 32, math.MaxInt, math.MinInt}

// Texts that LooseIp4 takes and ParseIp4 refuses.
var looseTexts = []struct {
	why, s string
	n      int
}{
	{"one part", "1", 1},
	{"one part, 0", "0", 0},
	{"one part, all that it may be", "4294967295", ip4Last},
	{"two parts", "1.2", 16777218},
	{"two parts, all that the last may be", "1.16777215", 33554431},
	{"two parts, all that both may be", "255.16777215", ip4Last},
	{"three parts", "1.2.3", 16908291},
	{"three parts, all that the last may be", "1.2.65535", 16973823},
	{"three parts, all that they may be", "255.255.65535", ip4Last},
	{"a dot at the end of one", "1.", 1},
	{"a dot at the end of two", "1.2.", 16777218},
	{"a dot at the end of three", "1.2.3.", 16908291},
	{"a dot at the end of four", "1.2.3.4.", 16909060},
	{"a dot behind 0x", "0x.", 0},
	{"0x without digits", "0x", 0},
	{"0X without digits", "0X", 0},
	{"0x without digits, four times", "0x.0X.0x.0X", 0},
	{"0x and 8 hex digits", "0xffffffff", ip4Last},
	{"0X and 8 great hex digits", "0XFFFFFFFF", ip4Last},
	{"0x and 8 hex digits, noughts ahead", "0x0000000a", 10},
	{"0x, both kinds of hex digits", "0xAbCdEf", 11259375},
	{"0x in a part ahead", "0x7f.1", 2130706433},
	{"0x in all parts", "0x01.0x02.0x03.0x04", 16909060},
	{"0x, 255 in 8 digits", "0x000000ff.0", 4278190080},
	{"eights", "017", 15},
	{"eights, needless noughts", "0000", 0},
	{"eights in a part ahead", "0177.1", 2130706433},
	{"0 and 11 of 0 to 7", "037777777777", ip4Last},
	{"0 and 11 of 0 to 7, noughts", "000000000000", 0},
	{"0 and 11 of 0 to 7, noughts ahead", "000000000377.1", 4278190081},
	{"eights where tens would do", "010.010.010.010", 134744072},
	{"10 digits", "1000000000", 1000000000},
	{"tens, eights and sixteens", "10.010.0x10", 168296464},
	{"a nought and a dot", "0.", 0},
}

// Texts that neither LooseIp4 nor ParseIp4 takes.
var noLooseTexts = []struct {
	why, s string
}{
	{"no text", ""},
	{"a dot", "."},
	{"two dots", ".."},
	{"three dots", "..."},
	{"four dots", "...."},
	{"a dot ahead", ".1"},
	{"a dot ahead and one at the end", ".1."},
	{"an empty part", "1..2"},
	{"an empty part, four in all", "1..2.3"},
	{"two dots at the end", "1.."},
	{"two dots at the end of two", "1.2.."},
	{"two dots at the end of four", "1.2.3.4.."},
	{"five parts", "1.2.3.4.5"},
	{"five parts of 0", "0.0.0.0.0"},
	{"five parts and a dot", "1.2.3.4.5."},
	{"very many parts", strings.Repeat("1.", 1<<16)},
	{"very many dots", strings.Repeat(".", 1<<16)},
	{"one part, one too many", "4294967296"},
	{"one part, 10 digits, much too many", "9999999999"},
	{"one part, eights, one too many", "040000000000"},
	{"two parts, the first of 256", "256.1"},
	{"two parts, the last one too many", "1.16777216"},
	{"two parts, the last one too many, of 0", "0.16777216"},
	{"two parts, the last of 2^32 less 1", "0.4294967295"},
	{"three parts, the first of 256", "256.1.1"},
	{"three parts, the second of 256", "1.256.1"},
	{"three parts, the last one too many", "1.2.65536"},
	{"four parts, the first of 256", "256.2.3.4"},
	{"four parts, the second of 256", "1.256.3.4"},
	{"four parts, the third of 256", "1.2.256.4"},
	{"four parts, the last one too many", "1.2.3.256"},
	{"four parts, the last one too many, in sixteens", "1.2.3.0x100"},
	{"four parts, the last one too many, in eights", "1.2.3.0400"},
	{"a part ahead too great in sixteens", "0x100.1"},
	{"a part ahead too great in eights", "0400.1"},
	{"a last part that is too great, with a dot", "1.2.3.256."},
	{"0x and 9 hex digits", "0x123456789"},
	{"0x and 9 hex digits, noughts ahead", "0x000000001"},
	{"0x and 9 noughts", "0X000000000"},
	{"0x and no hex digit", "0xg"},
	{"0x and no hex digit behind one", "0x1g"},
	{"0x twice", "0x0x1"},
	{"x ahead", "x1"},
	{"x without 0", "1.x"},
	{"two noughts ahead of x", "00x1"},
	{"0 and 12 of 0 to 7", "0000000000001"},
	{"0 and 12 noughts", "0000000000000"},
	{"0 and an 8", "08"},
	{"0 and a 9", "09"},
	{"0, a 7 and an 8", "0178"},
	{"0 and a letter", "0a"},
	{"11 digits", "10000000000"},
	{"11 digits, great", "99999999999"},
	{"very many digits", strings.Repeat("1", 1<<16)},
	{"very many noughts", strings.Repeat("0", 1<<16)},
	{"very many hex noughts", "0x" + strings.Repeat("0", 1<<16)},
	{"2^64 and one", "18446744073709551617"},
	{"a minus", "-1"},
	{"a plus", "+1"},
	{"a minus within", "1.-2.3.4"},
	{"a plus behind 0x", "0x+1"},
	{"a minus behind 0", "0-1"},
	{"a blank ahead", " 1.2.3.4"},
	{"a blank behind", "1.2.3.4 "},
	{"a blank within", "1. 2.3.4"},
	{"a blank alone", " "},
	{"a byte 10 behind", "1.2.3.4\n"},
	{"a letter", "a"},
	{"a hex digit without 0x", "1.2.3.f"},
	{"a letter behind a digit", "1.2.3.4a"},
	{"a line below", "1_0"},
	{"a comma", "1,2"},
	{"a colon", "1.2.3.4:80"},
	{"a slash", "1.2.3.4/8"},
	{"the byte behind 9", "1:"},
	{"a byte 0", "1\x00"},
	{"a byte 255", "\xff"},
	{"digits of another kind", "١"},
	{"a dot of another kind", "1。2"},
	{"a point and an exponent", "1e1"},
}

// Addresses of eight: groups and their one text.
var ip6Texts = []struct {
	why string
	w   [8]int
	s   string
}{
	{"all eight", [8]int{}, "::"},
	{"none", [8]int{1, 2, 3, 4, 5, 6, 7, 8}, "1:2:3:4:5:6:7:8"},
	{"65535", [8]int{65535, 65535, 65535, 65535, 65535, 65535, 65535, 65535}, "ffff:ffff:ffff:ffff:ffff:ffff:ffff:ffff"},
	{"one to four digits", [8]int{15, 16, 255, 256, 4095, 4096, 43981, 61453}, "f:10:ff:100:fff:1000:abcd:f00d"},
	{"seven at the beginning", [8]int{7: 1}, "::1"},
	{"seven at the end", [8]int{1}, "1::"},
	{"six at the beginning", [8]int{6: 1, 7: 2}, "::1:2"},
	{"six at the end", [8]int{1, 2}, "1:2::"},
	{"six in the midst", [8]int{0: 1, 7: 8}, "1::8"},
	{"two at the beginning", [8]int{0, 0, 3, 4, 5, 6, 7, 8}, "::3:4:5:6:7:8"},
	{"two at the end", [8]int{1, 2, 3, 4, 5, 6, 0, 0}, "1:2:3:4:5:6::"},
	{"two in the midst", [8]int{1, 2, 3, 0, 0, 6, 7, 8}, "1:2:3::6:7:8"},
	{"one at the beginning", [8]int{0, 2, 3, 4, 5, 6, 7, 8}, "0:2:3:4:5:6:7:8"},
	{"one at the end", [8]int{1, 2, 3, 4, 5, 6, 7, 0}, "1:2:3:4:5:6:7:0"},
	{"one in the midst", [8]int{1, 2, 3, 0, 5, 6, 7, 8}, "1:2:3:0:5:6:7:8"},
	{"four of one each", [8]int{0, 2, 0, 4, 0, 6, 0, 8}, "0:2:0:4:0:6:0:8"},
	{"one, then two", [8]int{0, 2, 0, 0, 5, 6, 7, 8}, "0:2::5:6:7:8"},
	{"two, then one", [8]int{0, 0, 3, 0, 5, 6, 7, 8}, "::3:0:5:6:7:8"},
	{"two rows of two", [8]int{1, 0, 0, 4, 5, 0, 0, 8}, "1::4:5:0:0:8"},
	{"two rows of two, at both ends", [8]int{0, 0, 3, 4, 5, 6, 0, 0}, "::3:4:5:6:0:0"},
	{"two rows of three, at both ends", [8]int{0, 0, 0, 4, 5, 0, 0, 0}, "::4:5:0:0:0"},
	{"three rows of two", [8]int{0, 0, 3, 0, 0, 6, 0, 0}, "::3:0:0:6:0:0"},
	{"two, then three", [8]int{1, 0, 0, 4, 0, 0, 0, 8}, "1:0:0:4::8"},
	{"two at the beginning, then three", [8]int{0, 0, 3, 4, 0, 0, 0, 8}, "0:0:3:4::8"},
	{"two, then three at the end", [8]int{1, 0, 0, 4, 5, 0, 0, 0}, "1:0:0:4:5::"},
	{"three, then two", [8]int{1, 0, 0, 0, 5, 0, 0, 8}, "1::5:0:0:8"},
	{"two, then five", [8]int{0, 0, 3}, "0:0:3::"},
	{"five, then two", [8]int{5: 6}, "::6:0:0"},
	{"three, then four", [8]int{3: 4}, "0:0:0:4::"},
	{"four, then three", [8]int{4: 5}, "::5:0:0:0"},
	{"an address of four behind noughts", [8]int{5: 65535, 6: 258, 7: 772}, "::ffff:102:304"},
	{"of documents", [8]int{8193, 3512, 7: 1}, "2001:db8::1"},
}

// Texts of addresses of eight that Ip6Text writes otherwise.
var otherIp6Texts = []struct {
	why, s string
	w      [8]int
}{
	{"noughts told one by one", "0:0:0:0:0:0:0:0", [8]int{}},
	{"noughts told in four digits", "0000:0000:0000:0000:0000:0000:0000:0000", [8]int{}},
	{"needless noughts", "0001:002:03:4:5:6:7:8", [8]int{1, 2, 3, 4, 5, 6, 7, 8}},
	{"great hex digits", "ABCD:EF::", [8]int{43981, 239}},
	{"both kinds of hex digits", "aBcD::Ef", [8]int{0: 43981, 7: 239}},
	{"great hex digits behind noughts", "::FFFF", [8]int{7: 65535}},
	{":: for one group at the beginning", "::2:3:4:5:6:7:8", [8]int{0, 2, 3, 4, 5, 6, 7, 8}},
	{":: for one group at the end", "1:2:3:4:5:6:7::", [8]int{1, 2, 3, 4, 5, 6, 7, 0}},
	{":: for one group in the midst", "1:2:3::5:6:7:8", [8]int{1, 2, 3, 0, 5, 6, 7, 8}},
	{":: for the second of two rows", "1:0:0:4:5::8", [8]int{1, 0, 0, 4, 5, 0, 0, 8}},
	{":: for the shorter row", "1::4:0:0:0:8", [8]int{1, 0, 0, 4, 0, 0, 0, 8}},
	{":: for a part of a row", "1:0::8", [8]int{0: 1, 7: 8}},
	{":: beside noughts", "0::0", [8]int{}},
	{":: ahead of a nought", "::0", [8]int{}},
	{":: behind a nought", "0::", [8]int{}},
	{"an address of four alone behind ::", "::1.2.3.4", [8]int{6: 258, 7: 772}},
	{"an address of four of noughts behind ::", "::0.0.0.0", [8]int{}},
	{"the last address of four behind ::", "::255.255.255.255", [8]int{6: 65535, 7: 65535}},
	{"an address of four behind :: and a group", "::ffff:1.2.3.4", [8]int{5: 65535, 6: 258, 7: 772}},
	{"an address of four behind a group and ::", "64:ff9b::192.0.2.33", [8]int{100, 65435, 6: 49152, 7: 545}},
	{"an address of four behind six groups", "1:2:3:4:5:6:7.8.9.10", [8]int{1, 2, 3, 4, 5, 6, 1800, 2314}},
	{"an address of four, :: for one group", "1:2:3:4:5::7.8.9.10", [8]int{1, 2, 3, 4, 5, 0, 1800, 2314}},
	{"an address of four, :: for one group ahead", "::2:3:4:5:6:7.8.9.10", [8]int{0, 2, 3, 4, 5, 6, 1800, 2314}},
}

var noIp6Texts = []struct {
	why, s string
}{
	{"no text", ""},
	{"a colon", ":"},
	{"three colons", ":::"},
	{"four colons", "::::"},
	{"eight colons", "::::::::"},
	{"one group", "1"},
	{"seven groups", "1:2:3:4:5:6:7"},
	{"seven groups, a colon at the end", "1:2:3:4:5:6:7:"},
	{"seven groups, a colon at the beginning", ":2:3:4:5:6:7:8"},
	{"eight groups, a colon at the end", "1:2:3:4:5:6:7:8:"},
	{"eight groups, a colon at the beginning", ":1:2:3:4:5:6:7:8"},
	{"nine groups", "1:2:3:4:5:6:7:8:9"},
	{"nine groups of 0", "0:0:0:0:0:0:0:0:0"},
	{"sixteen groups", strings.Repeat("1:", 15) + "1"},
	{":: for no group, in the midst", "1:2:3:4:5:6:7::8"},
	{":: for no group, behind one", "1::2:3:4:5:6:7:8"},
	{":: for no group, at the beginning", "::1:2:3:4:5:6:7:8"},
	{":: for no group, at the end", "1:2:3:4:5:6:7:8::"},
	{":: beside nine groups", "1:2:3:4::5:6:7:8:9"},
	{"two ::", "1::2::3"},
	{"two :: at both ends", "::1::"},
	{"two :: at the beginning", "::::1"},
	{":::, then a group", ":::1"},
	{"a group, then :::", "1:::"},
	{"::: between groups", "1:::2"},
	{"::, then a colon at the end", "::1:"},
	{"a colon at the beginning, then ::", ":1::"},
	{"five hex digits", "12345::"},
	{"five hex digits, a nought ahead", "01234::"},
	{"five noughts", "::00000"},
	{"five hex digits among eight", "1:2:3:4:5:6:7:10000"},
	{"very many noughts", "::" + strings.Repeat("0", 1<<16)},
	{"very many groups", strings.Repeat("0:", 1<<16)},
	{"very many colons", strings.Repeat(":", 1<<16)},
	{"no hex digit", "g::"},
	{"no hex digit, great", "::G"},
	{"no hex digit behind one", "::1g"},
	{"0x", "::0x1"},
	{"a sign", "::-1"},
	{"a plus", "+1::"},
	{"a blank alone", " "},
	{"a blank ahead", " ::"},
	{"a blank behind", ":: "},
	{"a blank within", ": :"},
	{"a blank in a group", "1:: 2"},
	{"a byte 10 behind", "::1\n"},
	{"brackets", "[::1]"},
	{"a zone", "fe80::1%eth0"},
	{"an address of four alone", "1.2.3.4"},
	{"an address of four ahead of ::", "1.2.3.4::"},
	{"an address of four ahead of a group", "::1.2.3.4:5"},
	{"an address of four at the beginning of eight", "1.2.3.4:3:4:5:6:7:8"},
	{"two addresses of four", "::1.2.3.4:1.2.3.4"},
	{"an address of four behind one colon", ":1.2.3.4"},
	{"an address of four behind three", ":::1.2.3.4"},
	{"an address of four and a colon", "::1.2.3.4:"},
	{"an address of four and noughts", "::1.2.3.4::"},
	{"an address of four and a dot", "::1.2.3.4."},
	{"an address of four behind five groups", "1:2:3:4:5:1.2.3.4"},
	{"an address of four behind seven groups", "1:2:3:4:5:6:7:1.2.3.4"},
	{"an address of four, :: for no group", "1:2:3:4:5:6::1.2.3.4"},
	{"an address of four, :: for no group, ahead", "::1:2:3:4:5:6:1.2.3.4"},
	{"an address of three", "::1.2.3"},
	{"an address of five", "::1.2.3.4.5"},
	{"a part of 256", "::1.2.3.256"},
	{"a needless nought in a part", "::1.2.3.04"},
	{"a part in sixteens", "::1.2.3.0x4"},
	{"a part with a letter", "::1.2.3.a"},
	{"an empty part", "::1..2.3"},
	{"a dot", "::."},
	{"a byte 0", "::\x00"},
	{"a byte 255", "\xff::"},
	{"digits of another kind", "::١"},
}

var (
	ip4Form   = regexp.MustCompile(`\A(0|[1-9][0-9]{0,2})\.(0|[1-9][0-9]{0,2})\.(0|[1-9][0-9]{0,2})\.(0|[1-9][0-9]{0,2})\z`)
	hexForm   = regexp.MustCompile(`\A0[xX]([0-9a-fA-F]{0,8})\z`)
	eightForm = regexp.MustCompile(`\A0([0-7]{0,11})\z`)
	tenForm   = regexp.MustCompile(`\A([1-9][0-9]{0,9})\z`)
	ip6Form   = regexp.MustCompile(`\A([0-9a-fA-F]{1,4}:){7}[0-9a-fA-F]{1,4}\z`)
	mixedForm = regexp.MustCompile(`\A(([0-9a-fA-F]{1,4}:){6})([0-9.]+)\z`)
)

// wantIp4Text takes a byte after the other off the end.
func wantIp4Text(n int) string {
	if n < 0 || n > ip4Last {
		return ""
	}
	s := ""
	for range 4 {
		s = "." + strconv.Itoa(n%256) + s
		n /= 256
	}
	return s[1:]
}

func wantIp4(s string) (int, bool) {
	m := ip4Form.FindStringSubmatch(s)
	if m == nil {
		return 0, false
	}
	n := 0
	for _, part := range m[1:] {
		one, _ := strconv.Atoi(part)
		if one > 255 {
			return 0, false
		}
		n = n*256 + one
	}
	return n, true
}

func wantLoosePart(s string) (uint64, bool) {
	for _, x := range []struct {
		form *regexp.Regexp
		base int
	}{{hexForm, 16}, {eightForm, 8}, {tenForm, 10}} {
		if m := x.form.FindStringSubmatch(s); m != nil {
			n, _ := strconv.ParseUint("0"+m[1], x.base, 64)
			return n, true
		}
	}
	return 0, false
}

func wantLoose(s string) (int, bool) {
	parts := strings.Split(s, ".")
	if len(parts) > 1 && parts[len(parts)-1] == "" {
		parts = parts[:len(parts)-1]
	}
	if len(parts) > 4 {
		return 0, false
	}
	// By how many parts there are: the power of 256 that the last is below.
	bound := [5]uint64{1: 1 << 32, 2: 1 << 24, 3: 1 << 16, 4: 1 << 8}[len(parts)]
	n := 0
	for i, part := range parts {
		one, ok := wantLoosePart(part)
		last := i == len(parts)-1
		if !ok || last && one >= bound || !last && one > 255 {
			return 0, false
		}
		if last {
			n += int(one)
		} else {
			n += int(one) << (24 - 8*i)
		}
	}
	return n, true
}

// wantIp6Text tries the rows from the longest down, each from the first place
// on.
func wantIp6Text(w [8]int) string {
	words := make([]string, 8)
	for i, n := range w {
		if n < 0 || n > 65535 {
			return ""
		}
		words[i] = strconv.FormatInt(int64(n), 16)
	}
	for many := 8; many >= 2; many-- {
		row := strings.Repeat("0 ", many)
		for from := 0; from+many <= 8; from++ {
			if strings.Join(words[from:from+many], " ")+" " == row {
				return strings.Join(words[:from], ":") + "::" + strings.Join(words[from+many:], ":")
			}
		}
	}
	return strings.Join(words, ":")
}

// wantFullIp6 reads a text without ::.
func wantFullIp6(s string) ([8]int, bool) {
	var w [8]int
	if m := mixedForm.FindStringSubmatch(s); m != nil {
		n, ok := wantIp4(m[3])
		if !ok {
			return w, false
		}
		s = m[1] + strconv.FormatInt(int64(n/65536), 16) + ":" + strconv.FormatInt(int64(n%65536), 16)
	}
	if !ip6Form.MatchString(s) {
		return w, false
	}
	for i, word := range strings.Split(s, ":") {
		n, _ := strconv.ParseInt(word, 16, 64)
		w[i] = int(n)
	}
	return w, true
}

// wantIp6 writes :: as one to eight groups of 0, and sees whether one of these
// texts is right.
func wantIp6(s string) ([8]int, bool) {
	head, tail, found := strings.Cut(s, "::")
	if !found {
		return wantFullIp6(s)
	}
	for many := 1; many <= 8; many++ {
		full := strings.Repeat("0:", many-1) + "0"
		if head != "" {
			full = head + ":" + full
		}
		if tail != "" {
			full += ":" + tail
		}
		if w, ok := wantFullIp6(full); ok {
			return w, true
		}
	}
	return [8]int{}, false
}

// checkIp4 holds the readers of a text against tellings of their own, and
// against the promise.
func checkIp4(t *testing.T, s string) {
	t.Helper()
	want, wantOk := wantIp4(s)
	n, ok := impl.ParseIp4(s)
	if ok != wantOk || n != want {
		t.Fatalf("ParseIp4(%q) = %d, %v; want %d, %v", s, n, ok, want, wantOk)
	}
	if back := impl.Ip4Text(n); ok && back != s {
		t.Fatalf("Ip4Text(%d) = %q; want %q", n, back, s)
	}
	want, wantOk = wantLoose(s)
	loose, looseOk := impl.LooseIp4(s)
	if looseOk != wantOk || loose != want {
		t.Fatalf("LooseIp4(%q) = %d, %v; want %d, %v", s, loose, looseOk, want, wantOk)
	}
	if ok && (!looseOk || loose != n) {
		t.Fatalf("LooseIp4(%q) = %d, %v; ParseIp4 is %d", s, loose, looseOk, n)
	}
	if looseOk {
		checkIp4Number(t, loose)
	}
}

// checkIp4Number asks that a number comes back of its text.
func checkIp4Number(t *testing.T, n int) {
	t.Helper()
	s := impl.Ip4Text(n)
	if s != wantIp4Text(n) {
		t.Fatalf("Ip4Text(%d) = %q; want %q", n, s, wantIp4Text(n))
	}
	if s == "" {
		return
	}
	if back, ok := impl.ParseIp4(s); !ok || back != n {
		t.Fatalf("ParseIp4(%q) = %d, %v; want %d", s, back, ok, n)
	}
}

func checkIp6(t *testing.T, s string) {
	t.Helper()
	want, wantOk := wantIp6(s)
	w, ok := impl.ParseIp6(s)
	if ok != wantOk || w != want {
		t.Fatalf("ParseIp6(%q) = %v, %v; want %v, %v", s, w, ok, want, wantOk)
	}
	if ok {
		checkIp6Groups(t, w)
	}
}

func checkIp6Groups(t *testing.T, w [8]int) {
	t.Helper()
	s := impl.Ip6Text(w)
	if s != wantIp6Text(w) {
		t.Fatalf("Ip6Text(%v) = %q; want %q", w, s, wantIp6Text(w))
	}
	if s == "" {
		return
	}
	if back, ok := impl.ParseIp6(s); !ok || back != w {
		t.Fatalf("ParseIp6(%q) = %v, %v; want %v", s, back, ok, w)
	}
}

func TestIp4Texts(t *testing.T) {
	for _, x := range ip4Texts {
		if s := impl.Ip4Text(x.n); s != x.s {
			t.Errorf("Ip4Text(%d) = %q; want %q", x.n, s, x.s)
		}
		if n, ok := impl.ParseIp4(x.s); !ok || n != x.n {
			t.Errorf("ParseIp4(%q) = %d, %v; want %d", x.s, n, ok, x.n)
		}
		if n, ok := impl.LooseIp4(x.s); !ok || n != x.n {
			t.Errorf("LooseIp4(%q) = %d, %v; want %d", x.s, n, ok, x.n)
		}
		checkIp4(t, x.s)
	}
}

func TestIp4TextOfNoAddress(t *testing.T) {
	for _, n := range noIp4 {
		if s := impl.Ip4Text(n); s != "" {
			t.Errorf("Ip4Text(%d) = %q", n, s)
		}
	}
}

func TestIp4OfEveryByteOfTheNumber(t *testing.T) {
	for at := range 4 {
		for c := range 256 {
			for _, others := range []int{0, 0x01020304, ip4Last} {
				checkIp4Number(t, others&^(255<<(8*at))|c<<(8*at))
			}
		}
	}
	turn := rand.New(rand.NewSource(5))
	for range 100000 {
		checkIp4Number(t, turn.Intn(ip4Last+1))
	}
}

func TestLooseTexts(t *testing.T) {
	for _, x := range looseTexts {
		if n, ok := impl.LooseIp4(x.s); !ok || n != x.n {
			t.Errorf("%s: LooseIp4(%q) = %d, %v; want %d", x.why, x.s, n, ok, x.n)
		}
		if n, ok := impl.ParseIp4(x.s); ok || n != 0 {
			t.Errorf("%s: ParseIp4(%q) = %d, %v", x.why, x.s, n, ok)
		}
		checkIp4(t, x.s)
	}
}

func TestNoLooseTexts(t *testing.T) {
	for _, x := range noLooseTexts {
		if n, ok := impl.LooseIp4(x.s); ok || n != 0 {
			t.Errorf("%s: LooseIp4 = %d, %v", x.why, n, ok)
		}
		if n, ok := impl.ParseIp4(x.s); ok || n != 0 {
			t.Errorf("%s: ParseIp4 = %d, %v", x.why, n, ok)
		}
	}
}

// What is right to LooseIp4 alone must not be right to ParseIp4 in any part.
func TestIp4OfOneOddPart(t *testing.T) {
	odd := []string{"", "00", "01", "007", "010", "08", "0x", "0x1", "0X1", "0xff", "0x100", "255", "256", "257", "300", "999", "1000", "0377", "0400", "-0", "+1", " 1", "1 ", "a", "1.", ".1"}
	for at := range 4 {
		for _, part := range odd {
			parts := []string{"1", "2", "3", "4"}
			parts[at] = part
			checkIp4(t, strings.Join(parts, "."))
		}
	}
}

func TestLooseIp4AtTheBounds(t *testing.T) {
	for many, end := range map[int]int{1: 1 << 32, 2: 1 << 24, 3: 1 << 16, 4: 1 << 8} {
		for _, ahead := range []string{"0.", "1.", "255.", "0xff.", "0377."} {
			begin := strings.Repeat(ahead, many-1)
			for _, x := range []struct {
				last int
				ok   bool
			}{{end - 2, true}, {end - 1, true}, {end, false}, {end + 1, false}} {
				for _, s := range []string{
					begin + strconv.Itoa(x.last),
					begin + "0x" + strconv.FormatInt(int64(x.last), 16),
					begin + "0X" + strings.ToUpper(strconv.FormatInt(int64(x.last), 16)),
					begin + "0" + strconv.FormatInt(int64(x.last), 8),
				} {
					if _, ok := impl.LooseIp4(s); ok != x.ok {
						t.Errorf("LooseIp4(%q): %v", s, ok)
					}
					checkIp4(t, s)
					checkIp4(t, s+".")
					checkIp4(t, s+"..")
				}
			}
		}
	}
}

func TestLooseIp4OfEveryLength(t *testing.T) {
	for many := range 20 {
		for _, ahead := range []string{"", "0", "0x", "0X", "00", "1.", "1.0", "1.0x"} {
			for _, of := range []string{"0", "1", "7", "8", "9", "f"} {
				checkIp4(t, ahead+strings.Repeat(of, many))
				checkIp4(t, ahead+strings.Repeat("0", many)+of)
			}
		}
	}
}

func TestIpOfEveryByte(t *testing.T) {
	for c := range 256 {
		b := oneByte(c)
		for _, s := range []string{b, "1" + b, b + "1", "1" + b + "1", "0" + b, "0" + b + "1", "0x" + b, "1.2.3." + b, b + ".2.3.4", "1.2" + b + "3.4", "1.2.3.4" + b} {
			checkIp4(t, s)
			checkIp6(t, "::"+s)
		}
		for _, s := range []string{b, b + "::", "1" + b + "::", ":" + b, ":" + b + ":", "1:2:3:4:5:6:7:" + b, "1:2:3:4" + b + "5:6:7:8", "1:2:3:4:5:6:7:8" + b, "::1.2.3.4" + b, "::" + b + "1.2.3.4"} {
			checkIp6(t, s)
		}
	}
}

func TestIp4OfEveryShortText(t *testing.T) {
	eachText("018.xXf", 6, func(s string) { checkIp4(t, s) })
	eachText("02.", 9, func(s string) { checkIp4(t, s) })
}

func TestIp6Texts(t *testing.T) {
	for _, x := range ip6Texts {
		if s := impl.Ip6Text(x.w); s != x.s {
			t.Errorf("%s: Ip6Text(%v) = %q; want %q", x.why, x.w, s, x.s)
		}
		if w, ok := impl.ParseIp6(x.s); !ok || w != x.w {
			t.Errorf("%s: ParseIp6(%q) = %v, %v; want %v", x.why, x.s, w, ok, x.w)
		}
		checkIp6(t, x.s)
		checkIp6(t, strings.ToUpper(x.s))
	}
}

func TestOtherIp6Texts(t *testing.T) {
	for _, x := range otherIp6Texts {
		if w, ok := impl.ParseIp6(x.s); !ok || w != x.w {
			t.Errorf("%s: ParseIp6(%q) = %v, %v; want %v", x.why, x.s, w, ok, x.w)
		}
		if s := impl.Ip6Text(x.w); s == x.s {
			t.Errorf("%s: Ip6Text(%v) = %q", x.why, x.w, s)
		}
		checkIp6(t, x.s)
	}
}

func TestNoIp6Texts(t *testing.T) {
	for _, x := range noIp6Texts {
		if w, ok := impl.ParseIp6(x.s); ok || w != [8]int{} {
			t.Errorf("%s: ParseIp6 = %v, %v", x.why, w, ok)
		}
	}
}

func TestIp6TextOfNoGroup(t *testing.T) {
	for at := range 8 {
		for _, n := range []int{-1, 65536, 65537, -65536, 1 << 16, 1 << 32, 1<<32 + 1, math.MaxInt, math.MinInt} {
			for _, w := range [][8]int{{}, {1, 2, 3, 4, 5, 6, 7, 8}} {
				w[at] = n
				if s := impl.Ip6Text(w); s != "" {
					t.Errorf("Ip6Text(%v) = %q", w, s)
				}
			}
		}
	}
}

func TestIp6OfEveryGroup(t *testing.T) {
	for n := range 65536 {
		var w [8]int
		w[n%8] = n
		checkIp6Groups(t, w)
		w = [8]int{n, 1, n, n, 1, 65535, n, n}
		checkIp6Groups(t, w)
	}
}

// Every way in which noughts may stand among eight groups.
func TestIp6OfEveryRowOfNoughts(t *testing.T) {
	for rows := range 256 {
		var w [8]int
		for i := range w {
			w[i] = (rows >> i & 1) * (i + 9)
		}
		checkIp6Groups(t, w)
	}
}

// A library's telling agrees on all but addresses of four behind ffff, which
// it writes in another form.
func TestIp6AsALibraryTellsIt(t *testing.T) {
	turn := rand.New(rand.NewSource(6))
	for range 50000 {
		var b [16]byte
		for i := range b {
			if turn.Intn(4) == 0 {
				b[i] = byte(turn.Intn(256))
			}
		}
		addr := netip.AddrFrom16(b)
		if addr.Is4In6() {
			continue
		}
		var w [8]int
		for i := range w {
			w[i] = int(b[2*i])*256 + int(b[2*i+1])
		}
		if s := impl.Ip6Text(w); s != addr.String() {
			t.Fatalf("Ip6Text(%v) = %q; want %q", w, s, addr)
		}
		if back, ok := impl.ParseIp6(addr.StringExpanded()); !ok || back != w {
			t.Fatalf("ParseIp6(%q) = %v, %v; want %v", addr.StringExpanded(), back, ok, w)
		}
	}
}

func TestIp6OfEveryShortText(t *testing.T) {
	eachText(":0fG.", 6, func(s string) { checkIp6(t, s) })
	eachText(":1", 13, func(s string) { checkIp6(t, s) })
	eachText(":0", 4, func(s string) {
		checkIp6(t, s+"1.2.3.4")
		checkIp6(t, "1.2.3.4"+s)
		checkIp6(t, "1:2:3:4:5:"+s)
		checkIp6(t, "1:2:3:4:5"+s+"1.2.3.4")
		checkIp6(t, s+":5:6:7:8")
	})
}

func TestIpOfManyTexts(t *testing.T) {
	turn := rand.New(rand.NewSource(7))
	six := []string{"0", "0", "1", "ff", "ABC", "ffff", ":", ":", ":", ":", ":", ":", "::", "1.2.3.4", "255.0.0.1", "12345", "01.2.3.4", "g", "."}
	four := []string{".", ".", ".", ".", "0", "0", "1", "7", "255", "256", "65535", "65536", "16777215", "16777216", "4294967295", "0x", "0xff", "0377", "0X1F", "8", "g", "-"}
	for range 100000 {
		s, many := "", turn.Intn(18)
		for range many {
			// The last ones, which make a text wrong, come seldom.
			s += six[turn.Intn(len(six)-turn.Intn(7))]
		}
		checkIp6(t, s)
		s, many = "", turn.Intn(9)
		for range many {
			s += four[turn.Intn(len(four)-turn.Intn(3))]
		}
		checkIp4(t, s)
	}
}

// Texts with as many groups as may be right, so that most of them are.
func TestIp6OfManyAddresses(t *testing.T) {
	turn := rand.New(rand.NewSource(8))
	words := []string{"0", "0", "0", "00", "0000", "1", "0a", "0A", "bcd", "BCD", "ffff", "FFFF", "fFfF"}
	right := 0
	for range 50000 {
		many := 8 - turn.Intn(3)
		l := make([]string, 0, 9)
		for range many {
			l = append(l, words[turn.Intn(len(words))])
		}
		if turn.Intn(3) == 0 {
			l[many-1] = "192.0.2.1"
		}
		s := strings.Join(l, ":")
		if turn.Intn(2) == 0 {
			at := turn.Intn(many)
			s = strings.Join(l[:at], ":") + "::" + strings.Join(l[at:], ":")
		}
		checkIp6(t, s)
		if _, ok := impl.ParseIp6(s); ok {
			right++
		}
	}
	if right < 15000 {
		t.Error("the test's own texts: right ones", right)
	}
}

func TestIpTextsAreNewMemory(t *testing.T) {
	for range 2 {
		one, two := impl.Ip4Text(16909060), impl.Ip4Text(16909060)
		if unsafe.StringData(one) == unsafe.StringData(two) {
			t.Error("two texts of four are one memory")
		}
		w := [8]int{1, 0, 0, 4, 5, 6, 7, 8}
		one, two = impl.Ip6Text(w), impl.Ip6Text(w)
		if unsafe.StringData(one) == unsafe.StringData(two) {
			t.Error("two texts of eight are one memory")
		}
	}
}
