package tests

import (
	"math/rand"
	"reflect"
	"regexp"
	"slices"
	"strconv"
	"strings"
	"testing"
	"unsafe"

	"loop.example/g00191/impl"
)

func plainRule(parts ...string) impl.SiteRule { return impl.SiteRule{Parts: parts} }

func exceptRule(parts ...string) impl.SiteRule { return impl.SiteRule{Parts: parts, Except: true} }

type rules = []impl.SiteRule

// manyRules are so many, no two alike.
func manyRules(many int) rules {
	l := rules{}
	for i := range many {
		l = append(l, plainRule("r"+strconv.Itoa(i)))
	}
	return l
}

// Rules that are right, and their text.
var rightRules = []struct {
	why  string
	l    rules
	text string
}{
	{"no rules", rules{}, ""},
	{"nil", nil, ""},
	{"one part", rules{plainRule("com")}, "com\n"},
	{"two parts", rules{plainRule("uk", "co")}, "co.uk\n"},
	{"three parts", rules{plainRule("jp", "kobe", "city")}, "city.kobe.jp\n"},
	{"eight parts", rules{plainRule("h", "g", "f", "e", "d", "c", "b", "a")}, "a.b.c.d.e.f.g.h\n"},
	{"eight parts, the last of them any one", rules{plainRule("h", "g", "f", "e", "d", "c", "b", "*")}, "*.b.c.d.e.f.g.h\n"},
	{"any one alone", rules{plainRule("*")}, "*\n"},
	{"any one as the last of Parts", rules{plainRule("jp", "*")}, "*.jp\n"},
	{"any one as the last of three", rules{plainRule("jp", "kobe", "*")}, "*.kobe.jp\n"},
	{"an exception of two parts", rules{exceptRule("jp", "kobe")}, "!kobe.jp\n"},
	{"an exception of three parts", rules{exceptRule("jp", "kobe", "city")}, "!city.kobe.jp\n"},
	{"an exception of eight parts", rules{exceptRule("h", "g", "f", "e", "d", "c", "b", "a")}, "!a.b.c.d.e.f.g.h\n"},
	{"an exception alone, without what it excepts from", rules{exceptRule("b", "a")}, "!a.b\n"},
	{"rules of many kinds", rules{plainRule("com"), plainRule("uk"), plainRule("uk", "co"), plainRule("jp"), plainRule("jp", "kobe", "*"), exceptRule("jp", "kobe", "city")}, "com\nuk\nco.uk\njp\n*.kobe.jp\n!city.kobe.jp\n"},
	{"no order is asked for", rules{plainRule("z"), plainRule("a"), plainRule("m")}, "z\na\nm\n"},
	{"two that differ by Except alone", rules{plainRule("uk", "co"), exceptRule("uk", "co")}, "co.uk\n!co.uk\n"},
	{"two that differ by Except alone, the exception first", rules{exceptRule("uk", "co"), plainRule("uk", "co")}, "!co.uk\nco.uk\n"},
	{"two that are one another's turning", rules{plainRule("a", "b"), plainRule("b", "a")}, "b.a\na.b\n"},
	{"one that another begins with", rules{plainRule("a"), plainRule("a", "b"), plainRule("a", "b", "c")}, "a\nb.a\nc.b.a\n"},
	{"any one beside a part", rules{plainRule("a", "*"), plainRule("a", "b")}, "*.a\nb.a\n"},
	{"labels of one byte", rules{plainRule("a", "0")}, "0.a\n"},
	{"labels that are digits", rules{plainRule("1", "2")}, "2.1\n"},
	{"labels with hyphens", rules{plainRule("a-b", "c--d")}, "c--d.a-b\n"},
	{"a coded label", rules{plainRule("xn--p1ai")}, "xn--p1ai\n"},
	{"a label that is no code", rules{plainRule("xn--99999999")}, "xn--99999999\n"},
	{"a label that nearly is one", rules{plainRule("xn--a"), plainRule("xn")}, "xn--a\nxn\n"},
	{"a label of MaxLabel bytes", rules{plainRule(longest)}, longest + "\n"},
	{"eight labels of MaxLabel bytes", rules{plainRule(longest, longest, longest, longest, longest, longest, longest, longest)}, strings.Repeat(longest+".", 7) + longest + "\n"},
	{"parts that are alike", rules{plainRule("a", "a"), plainRule("a", "a", "a")}, "a.a\na.a.a\n"},
}

// Rules that are not right, and have no text.
var wrongRules = []struct {
	why string
	r   impl.SiteRule
}{
	{"the zero one", impl.SiteRule{}},
	{"no part", plainRule()},
	{"no part, an exception", exceptRule()},
	{"nine parts", plainRule("i", "h", "g", "f", "e", "d", "c", "b", "a")},
	{"nine parts, an exception", exceptRule("i", "h", "g", "f", "e", "d", "c", "b", "a")},
	{"nine parts, the last any one", plainRule("i", "h", "g", "f", "e", "d", "c", "b", "*")},
	{"nine hundred parts", plainRule(slices.Repeat([]string{"a"}, 900)...)},
	{"an exception of one part", exceptRule("com")},
	{"an exception of any one", exceptRule("*")},
	{"an exception with any one", exceptRule("com", "*")},
	{"an exception with any one behind two", exceptRule("jp", "kobe", "*")},
	{"an exception with any one first", exceptRule("*", "com")},
	{"any one as the first of Parts", plainRule("*", "a")},
	{"any one in the midst", plainRule("a", "*", "b")},
	{"any one twice", plainRule("*", "*")},
	{"any one twice behind a part", plainRule("a", "*", "*")},
	{"two stars in one part", plainRule("a", "**")},
	{"a star and a letter", plainRule("a", "*b")},
	{"a letter and a star", plainRule("a", "b*")},
	{"an empty label alone", plainRule("")},
	{"an empty label first", plainRule("", "a")},
	{"an empty label in the midst", plainRule("a", "", "b")},
	{"an empty label last", plainRule("a", "")},
	{"an empty label last, an exception", exceptRule("a", "")},
	{"two empty labels", plainRule("", "")},
	{"a great letter", plainRule("Com")},
	{"a great letter last", plainRule("uk", "cO")},
	{"a great letter, an exception", exceptRule("uk", "Co")},
	{"a hyphen alone", plainRule("-")},
	{"a hyphen at the beginning", plainRule("-a")},
	{"a hyphen at the end", plainRule("a-")},
	{"a hyphen at the end of the last", plainRule("a", "b-")},
	{"a label that is too long", plainRule(tooLong)},
	{"a label that is too long, last", plainRule("a", tooLong)},
	{"a label that is too long, an exception", exceptRule(tooLong, "a")},
	{"a dot in a label", plainRule("co.uk")},
	{"a dot at the end of a label", plainRule("uk", "co.")},
	{"an exception's mark in a label", plainRule("uk", "!co")},
	{"an exception's mark in an exception's label", exceptRule("uk", "!co")},
	{"a line's end in a label", plainRule("a\nb")},
	{"a line's end behind a label", plainRule("a\n")},
	{"a blank ahead of a label", plainRule(" a")},
	{"a blank behind a label", plainRule("a ")},
	{"a blank alone", plainRule(" ")},
	{"a remark", plainRule("//")},
	{"a slash", plainRule("a/b")},
	{"a line below", plainRule("a_b")},
	{"a rune", plainRule("é")},
	{"a byte 0", plainRule("a\x00")},
	{"a byte 255", plainRule("\xff")},
}

// Texts of rules that RulesText writes otherwise.
var otherRuleTexts = []struct {
	why, s, text string
}{
	{"an empty line", "\n", ""},
	{"empty lines", "\n\n\n", ""},
	{"blanks alone", " \t\r ", ""},
	{"lines of blanks alone", " \n\t\n\r\n \r", ""},
	{"a remark alone", "// com", ""},
	{"two slashes alone", "//", ""},
	{"a remark and no byte 10", "com\n// uk", "com\n"},
	{"a remark that holds what is no rule", "//..!*\xff\ncom", "com\n"},
	{"a remark with no blank", "//com", ""},
	{"a remark with three slashes", "///", ""},
	{"a remark behind blanks", " \t// com\ncom", "com\n"},
	{"a remark twice", "// a\n// a\n", ""},
	{"no byte 10 at the end", "com", "com\n"},
	{"no byte 10 at the end of several", "com\nuk", "com\nuk\n"},
	{"an empty line first", "\ncom\n", "com\n"},
	{"empty lines between", "com\n\n\nuk\n", "com\nuk\n"},
	{"empty lines at the end", "com\n\n\n", "com\n"},
	{"blanks ahead", "  com", "com\n"},
	{"blanks behind", "com  ", "com\n"},
	{"all blanks around", " \t\r com\t\r \n", "com\n"},
	{"lines that end with 13 and 10", "com\r\n!b.a\r\n", "com\n!b.a\n"},
	{"great letters", "COM\nCo.Uk\n", "com\nco.uk\n"},
	{"great letters and blanks", " COM ", "com\n"},
	{"great letters of an exception", "!City.KOBE.jp", "!city.kobe.jp\n"},
	{"great letters beside any one", "*.KOBE.JP", "*.kobe.jp\n"},
	{"blanks around an exception", " !a.b ", "!a.b\n"},
	{"blanks around any one", "\t*\t", "*\n"},
	{"a coded label in great letters", "XN--P1AI", "xn--p1ai\n"},
	{"eight parts", "A.b.c.d.e.f.g.h", "a.b.c.d.e.f.g.h\n"},
	{"two that differ by Except alone", "a.b\n!a.b", "a.b\n!a.b\n"},
}

// Texts that are no rules, and the number of the first line that is none.
var noRuleTexts = []struct {
	why, s string
	line   int
}{
	{"an exception's mark alone", "!", 0},
	{"an exception's mark and a blank", "! ", 0},
	{"an exception's mark and a dot", "!.", 0},
	{"two exception's marks", "!!a.b", 0},
	{"a blank behind the mark", "! a.b", 0},
	{"an exception of one part", "!com", 0},
	{"an exception of any one", "!*", 0},
	{"an exception with any one", "!*.com", 0},
	{"an exception with any one behind two", "!*.kobe.jp", 0},
	{"an exception of a remark", "!//", 0},
	{"an exception of nine parts", "!a.b.c.d.e.f.g.h.i", 0},
	{"a mark behind the name", "a.b!", 0},
	{"a mark in the midst", "a.!b", 0},
	{"an empty part in the midst", "a..b", 0},
	{"a dot", ".", 0},
	{"two dots", "..", 0},
	{"a dot ahead", ".com", 0},
	{"a dot behind", "com.", 0},
	{"a dot behind an exception", "!a.b.", 0},
	{"a dot ahead of an exception", "!.a.b", 0},
	{"any one as the last part", "a.*", 0},
	{"any one in the midst", "a.*.b", 0},
	{"any one twice", "*.*", 0},
	{"any one twice ahead of a part", "*.*.a", 0},
	{"two stars", "**", 0},
	{"a star and a letter", "*a.com", 0},
	{"a star and no dot", "*com", 0},
	{"a star and an empty part", "*.", 0},
	{"nine parts", "a.b.c.d.e.f.g.h.i", 0},
	{"nine parts with any one", "*.b.c.d.e.f.g.h.i", 0},
	{"one slash", "/", 0},
	{"two slashes behind", "com//", 0},
	{"a remark behind a rule", "com // x", 0},
	{"a blank in the midst", "a b", 0},
	{"a tab in the midst", "a\tb", 0},
	{"a byte 13 between two", "com\ruk", 0},
	{"a byte 11 at the end", "com\v", 0},
	{"a byte 12 at the beginning", "\fcom", 0},
	{"a byte 0", "\x00", 0},
	{"a hyphen alone", "-", 0},
	{"a hyphen ahead", "-a.com", 0},
	{"a hyphen behind", "a-.com", 0},
	{"a line below", "a_b", 0},
	{"a rune", "é", 0},
	{"a rune that is small as a letter", "\u212a", 0},
	{"a blank that is no byte 32", "\u00a0com", 0},
	{"a byte 255", "\xff", 0},
	{"a label that is too long", tooLong, 0},
	{"a remark of a #", "# com", 0},
	{"two alike", "com\ncom\n", 1},
	{"two alike, no byte 10", "com\ncom", 1},
	{"two alike but for great letters", "com\nCOM", 1},
	{"two alike but for blanks", "com\n com\t", 1},
	{"two exceptions alike", "!a.b\na.b\n!a.b", 2},
	{"two alike, others between", "a\nb\nc\na\n", 3},
	{"two alike with any one", "*.a\n*.a", 1},
	{"two alike, lines that are passed over between", "com\n\n// x\ncom", 3},
	{"behind an empty line", "\n!com", 1},
	{"behind empty lines", "\n\n\n.", 3},
	{"behind a remark", "// x\n.", 1},
	{"behind blanks", " \n\t\n.", 2},
	{"behind rules", "com\nuk\n!jp\n", 2},
	{"the first of two", "com\n.\n..\n", 1},
	{"the first of two, the second one that was there", "a\n!b\na", 1},
	{"ahead of what would be right", ".\ncom\nuk\n", 0},
	{"the last of several", "a\nb\nc\nd\n..", 4},
}

var benchRules = rules{
	plainRule("com"), plainRule("uk"), plainRule("uk", "co"), plainRule("jp"),
	plainRule("jp", "kobe", "*"), exceptRule("jp", "kobe", "city"),
}

// Rules, and names that they fit, or don't.
var fits = []struct {
	why  string
	r    impl.SiteRule
	name string
	fits bool
}{
	{"as many parts", plainRule("com"), "com", true},
	{"one part more", plainRule("com"), "a.com", true},
	{"many parts more", plainRule("com"), "a.b.c.d.e.f.g.h.i.j.com", true},
	{"another last part", plainRule("com"), "org", false},
	{"its part ahead of another", plainRule("com"), "com.org", false},
	{"a part that ends with it", plainRule("com"), "acom", false},
	{"a part that begins with it", plainRule("com"), "comm", false},
	{"a part that it begins with", plainRule("com"), "co", false},
	{"two parts, as many", plainRule("uk", "co"), "co.uk", true},
	{"two parts, more", plainRule("uk", "co"), "a.co.uk", true},
	{"two parts, fewer", plainRule("uk", "co"), "uk", false},
	{"two parts, fewer, the other one", plainRule("uk", "co"), "co", false},
	{"two parts, turned", plainRule("uk", "co"), "uk.co", false},
	{"two parts, the second another one", plainRule("uk", "co"), "ac.uk", false},
	{"two parts, the second further on", plainRule("uk", "co"), "co.a.uk", false},
	{"two parts, one text that ends so", plainRule("uk", "co"), "xco.uk", false},
	{"eight parts, as many", plainRule("h", "g", "f", "e", "d", "c", "b", "a"), "a.b.c.d.e.f.g.h", true},
	{"eight parts, more", plainRule("h", "g", "f", "e", "d", "c", "b", "a"), "z.a.b.c.d.e.f.g.h", true},
	{"eight parts, fewer", plainRule("h", "g", "f", "e", "d", "c", "b", "a"), "b.c.d.e.f.g.h", false},
	{"eight parts, the last another one", plainRule("h", "g", "f", "e", "d", "c", "b", "a"), "z.b.c.d.e.f.g.h", false},
	{"any one alone, one part", plainRule("*"), "com", true},
	{"any one alone, two parts", plainRule("*"), "a.com", true},
	{"any one alone, no name", plainRule("*"), "", false},
	{"any one, as many", plainRule("jp", "*"), "kobe.jp", true},
	{"any one, more", plainRule("jp", "*"), "a.kobe.jp", true},
	{"any one, fewer", plainRule("jp", "*"), "jp", false},
	{"any one behind another part", plainRule("jp", "*"), "kobe.uk", false},
	{"any one stands for one part", plainRule("jp", "kobe", "*"), "kobe.jp", false},
	{"any one stands for no more", plainRule("jp", "kobe", "*"), "kobe.a.jp", false},
	{"an exception fits as others do", exceptRule("jp", "kobe"), "kobe.jp", true},
	{"an exception, more", exceptRule("jp", "kobe"), "a.kobe.jp", true},
	{"an exception, fewer", exceptRule("jp", "kobe"), "jp", false},
	{"an exception, another part", exceptRule("jp", "kobe"), "kyoto.jp", false},
	{"no name", plainRule("com"), "", false},
	{"a great letter in the name", plainRule("com"), "a.COM", false},
	{"a dot at the name's end", plainRule("com"), "com.", false},
	{"a dot ahead of the name", plainRule("com"), ".com", true},
	{"an empty part in the name", plainRule("com"), "a..com", true},
	{"an empty part as any one", plainRule("com", "*"), ".com", true},
	{"an empty part in the midst as any one", plainRule("com", "*"), "a..com", true},
	{"a dot alone, any one", plainRule("*"), ".", true},
	{"a blank in the name's first part", plainRule("com"), "a b.com", true},
	{"a byte 255 as any one", plainRule("com", "*"), "\xff.com", true},
	{"a star in the name is no any one", plainRule("com", "a"), "*.com", false},
	{"a star in the name as any one", plainRule("com", "*"), "*.com", true},
	{"a star alone in the name", plainRule("com"), "*", false},

	{"not right: no part", plainRule(), "com", true},
	{"not right: no part, an exception", exceptRule(), "a.com", true},
	{"not right: no part, no name", plainRule(), "", true},
	{"not right: no part, no name as of chapter 4", plainRule(), "..", true},
	{"not right: any one first", plainRule("*", "a"), "a.com", true},
	{"not right: any one first, another behind", plainRule("*", "a"), "b.com", false},
	{"not right: any one first, fewer", plainRule("*", "a"), "com", false},
	{"not right: any one in the midst", plainRule("a", "*", "b"), "b.x.a", true},
	{"not right: any one in the midst, another behind", plainRule("a", "*", "b"), "c.x.a", false},
	{"not right: any one in the midst, fewer", plainRule("a", "*", "b"), "b.a", false},
	{"not right: any one twice", plainRule("*", "*"), "a.b", true},
	{"not right: any one twice, fewer", plainRule("*", "*"), "a", false},
	{"not right: an exception of one part", exceptRule("com"), "a.com", true},
	{"not right: an exception with any one", exceptRule("com", "*"), "a.com", true},
	{"not right: an exception with any one, fewer", exceptRule("com", "*"), "com", false},
	{"not right: great letters in both", plainRule("COM"), "a.COM", true},
	{"not right: great letters in the rule", plainRule("COM"), "a.com", false},
	{"not right: an empty part in both", plainRule("", "com"), "com.", true},
	{"not right: an empty part in both, ahead", plainRule("com", ""), ".com", true},
	{"not right: an empty part in the rule", plainRule("com", ""), "com", false},
	{"not right: an empty part, no name", plainRule(""), "", false},
	{"not right: a dot in a part", plainRule("co.uk"), "co.uk", false},
	{"not right: nine parts", plainRule("i", "h", "g", "f", "e", "d", "c", "b", "a"), "a.b.c.d.e.f.g.h.i", true},
	{"not right: nine parts, fewer", plainRule("i", "h", "g", "f", "e", "d", "c", "b", "a"), "b.c.d.e.f.g.h.i", false},
	{"not right: two stars", plainRule("com", "**"), "a.com", false},
	{"not right: two stars in both", plainRule("com", "**"), "**.com", true},
	{"not right: a label that is too long", plainRule(tooLong), "a." + tooLong, true},
}

// Names, how many parts their suffix has, and their site.
var sites = []struct {
	why    string
	l      rules
	name   string
	suffix int
	site   string
}{
	{"no rules", nil, "www.a.com", 1, "a.com"},
	{"no rules, two parts", nil, "a.com", 1, "a.com"},
	{"no rules, one part", nil, "com", 1, "com"},
	{"no rule that fits", benchRules, "a.b.org", 1, "b.org"},
	{"no rule that fits, two parts", benchRules, "b.org", 1, "b.org"},
	{"no rule that fits, one part", benchRules, "org", 1, "org"},
	{"one that fits", benchRules, "www.a.com", 1, "a.com"},
	{"one that fits, two parts", benchRules, "a.com", 1, "a.com"},
	{"a name that is itself a suffix", benchRules, "com", 1, "com"},
	{"many parts", benchRules, "a.b.c.d.e.f.g.h.i.com", 1, "i.com"},
	{"two that fit", benchRules, "x.y.co.uk", 2, "y.co.uk"},
	{"two that fit, a part more", benchRules, "y.co.uk", 2, "y.co.uk"},
	{"two that fit, itself a suffix", benchRules, "co.uk", 2, "co.uk"},
	{"one of two that fits", benchRules, "a.ac.uk", 1, "ac.uk"},
	{"one of two that fits, one part", benchRules, "uk", 1, "uk"},
	{"any one", benchRules, "a.b.c.kobe.jp", 3, "b.c.kobe.jp"},
	{"any one, a part more", benchRules, "b.c.kobe.jp", 3, "b.c.kobe.jp"},
	{"any one, itself a suffix", benchRules, "c.kobe.jp", 3, "c.kobe.jp"},
	{"any one has nothing to stand for", benchRules, "kobe.jp", 1, "kobe.jp"},
	{"an exception", benchRules, "www.city.kobe.jp", 2, "city.kobe.jp"},
	{"an exception, many parts", benchRules, "a.b.city.kobe.jp", 2, "city.kobe.jp"},
	{"an exception itself", benchRules, "city.kobe.jp", 2, "city.kobe.jp"},
	{"the exception's part elsewhere", benchRules, "city.a.kobe.jp", 3, "city.a.kobe.jp"},
	{"the longest first", rules{plainRule("uk", "co"), plainRule("uk")}, "a.b.co.uk", 2, "b.co.uk"},
	{"the longest last", rules{plainRule("uk"), plainRule("uk", "co")}, "a.b.co.uk", 2, "b.co.uk"},
	{"the longest in the midst", rules{plainRule("c"), plainRule("c", "b", "a"), plainRule("c", "b")}, "y.z.a.b.c", 3, "z.a.b.c"},
	{"the longest does not fit", rules{plainRule("c"), plainRule("c", "b", "x"), plainRule("c", "b")}, "y.z.a.b.c", 2, "a.b.c"},
	{"a rule without those that it goes on from", rules{plainRule("c", "b", "a")}, "z.a.b.c", 3, "z.a.b.c"},
	{"a rule without those, not reached", rules{plainRule("c", "b", "a")}, "z.b.c", 1, "b.c"},
	{"any one alone", rules{plainRule("*")}, "a.b.c", 1, "b.c"},
	{"any one alone, one part", rules{plainRule("*")}, "c", 1, "c"},
	{"any one and its own part", rules{plainRule("c", "*"), plainRule("c", "b")}, "a.b.c", 2, "a.b.c"},
	{"any one is longer than another", rules{plainRule("c"), plainRule("c", "*")}, "z.a.b.c", 2, "a.b.c"},
	{"any one is shorter than another", rules{plainRule("c", "*"), plainRule("c", "b", "a")}, "z.a.b.c", 3, "z.a.b.c"},
	{"any one alone beside another", rules{plainRule("*"), plainRule("c", "b")}, "z.a.b.c", 2, "a.b.c"},
	{"eight parts", rules{plainRule("h", "g", "f", "e", "d", "c", "b", "a")}, "y.z.a.b.c.d.e.f.g.h", 8, "z.a.b.c.d.e.f.g.h"},
	{"eight parts, itself a suffix", rules{plainRule("h", "g", "f", "e", "d", "c", "b", "a")}, "a.b.c.d.e.f.g.h", 8, "a.b.c.d.e.f.g.h"},
	{"an exception alone", rules{exceptRule("c", "b")}, "z.a.b.c", 1, "b.c"},
	{"an exception alone, of three parts", rules{exceptRule("c", "b", "a")}, "z.a.b.c", 2, "a.b.c"},
	{"an exception of eight parts", rules{exceptRule("h", "g", "f", "e", "d", "c", "b", "a")}, "z.a.b.c.d.e.f.g.h", 7, "a.b.c.d.e.f.g.h"},
	{"an exception that does not fit", rules{exceptRule("c", "x"), plainRule("c", "b")}, "z.a.b.c", 2, "a.b.c"},
	{"an exception that would need more parts", rules{exceptRule("c", "b", "a"), plainRule("c", "b")}, "b.c", 2, "b.c"},
	{"an exception and a rule of its own parts", rules{exceptRule("c", "b"), plainRule("c", "b")}, "z.a.b.c", 1, "b.c"},
	{"a rule and an exception of its own parts", rules{plainRule("c", "b"), exceptRule("c", "b")}, "z.a.b.c", 1, "b.c"},
	{"an exception with fewer parts than another", rules{exceptRule("c", "b"), plainRule("c", "b", "a")}, "y.z.a.b.c", 1, "b.c"},
	{"another, and an exception with fewer parts", rules{plainRule("c", "b", "a"), exceptRule("c", "b")}, "y.z.a.b.c", 1, "b.c"},
	{"an exception with far fewer parts than another", rules{plainRule("h", "g", "f", "e", "d", "c", "b", "a"), exceptRule("h", "g")}, "z.a.b.c.d.e.f.g.h", 1, "g.h"},
	{"an exception with fewer parts than any one", rules{exceptRule("c", "b"), plainRule("c", "b", "*")}, "z.a.b.c", 1, "b.c"},
	{"an exception with more parts than another", rules{exceptRule("c", "b", "a"), plainRule("c")}, "y.z.a.b.c", 2, "a.b.c"},
	{"another, and an exception with more parts", rules{plainRule("c"), exceptRule("c", "b", "a")}, "y.z.a.b.c", 2, "a.b.c"},
	{"an exception with one part more than another", rules{plainRule("c", "b"), exceptRule("c", "b", "a")}, "y.z.a.b.c", 2, "a.b.c"},
	{"two exceptions, the longest counts", rules{exceptRule("c", "b"), exceptRule("c", "b", "a")}, "y.z.a.b.c", 2, "a.b.c"},
	{"two exceptions, the longest first", rules{exceptRule("c", "b", "a"), exceptRule("c", "b")}, "y.z.a.b.c", 2, "a.b.c"},
	{"two exceptions and a longer rule", rules{exceptRule("c", "b"), plainRule("c", "b", "a", "z"), exceptRule("c", "b", "a")}, "y.z.a.b.c", 2, "a.b.c"},
	{"two exceptions, one fits", rules{exceptRule("c", "b"), exceptRule("c", "b", "x")}, "y.z.a.b.c", 1, "b.c"},
	{"an exception beside any one alone", rules{plainRule("*"), exceptRule("c", "b", "a")}, "z.a.b.c", 2, "a.b.c"},
	{"a name of MaxName bytes", rules{plainRule(strings.Repeat("b", 61), longest)}, mostName, 2, longest + "." + longest + "." + strings.Repeat("b", 61)},
	{"a name of very many parts", rules{plainRule("a", "a", "a")}, manyLabels, 3, "a.a.a.a"},
	{"a coded name", rules{plainRule("xn--p1ai")}, "a.b.xn--p1ai", 1, "b.xn--p1ai"},
	{"parts that are alike", rules{plainRule("a", "a")}, "a.a.a.a", 2, "a.a.a"},

	{"not right: no part", rules{plainRule()}, "a.b.c", 1, "b.c"},
	{"not right: no part beside another", rules{plainRule(), plainRule("c", "b")}, "z.a.b.c", 2, "a.b.c"},
	{"not right: an exception of one part", rules{exceptRule("c")}, "a.b.c", 0, "c"},
	{"not right: an exception of one part, one part", rules{exceptRule("c")}, "c", 0, "c"},
	{"not right: an exception of one part beside another", rules{exceptRule("c"), plainRule("c", "b")}, "a.b.c", 0, "c"},
	{"not right: an exception of any one", rules{exceptRule("*")}, "a.b.c", 0, "c"},
	{"not right: an exception with any one", rules{exceptRule("c", "*")}, "a.b.c", 1, "b.c"},
	{"not right: an exception of no part", rules{exceptRule()}, "a.b.c", -1, ""},
	{"not right: an exception of no part beside another", rules{plainRule("c", "b"), exceptRule()}, "a.b.c", -1, ""},
	{"not right: an exception of no part beside a right one", rules{exceptRule(), exceptRule("c", "b")}, "a.b.c", 1, "b.c"},
	{"not right: any one first", rules{plainRule("*", "b")}, "z.a.b.c", 2, "a.b.c"},
	{"not right: any one first, not fitting", rules{plainRule("*", "x")}, "z.a.b.c", 1, "b.c"},
	{"not right: any one first, an exception", rules{exceptRule("*", "b", "a")}, "z.a.b.c", 2, "a.b.c"},
	{"not right: any one in the midst", rules{plainRule("c", "*", "a")}, "y.z.a.b.c", 3, "z.a.b.c"},
	{"not right: nine parts", rules{plainRule("i", "h", "g", "f", "e", "d", "c", "b", "a")}, "y.z.a.b.c.d.e.f.g.h.i", 9, "z.a.b.c.d.e.f.g.h.i"},
	{"not right: two alike", rules{plainRule("c", "b"), plainRule("c", "b")}, "z.a.b.c", 2, "a.b.c"},
	{"not right: great letters", rules{plainRule("C", "B")}, "z.a.b.c", 1, "b.c"},
	{"not right: an empty part", rules{plainRule(""), plainRule("c", "")}, "z.a.b.c", 1, "b.c"},
	{"not right: a dot in a part", rules{plainRule("b.c"), plainRule("c", "a.b")}, "z.a.b.c", 1, "b.c"},
	{"not right: more than MaxRules", append(manyRules(200), plainRule("c", "b")), "z.a.b.c", 2, "a.b.c"},
	{"not right: more than MaxRules, the first fits", append(rules{plainRule("c", "b")}, manyRules(200)...), "z.a.b.c", 2, "a.b.c"},
}

// Texts that are no names, or that NameOf turns.
var noSuffixNames = []struct{ why, s string }{
	{"nothing", ""},
	{"a dot", "."},
	{"a great letter", "A"},
	{"great letters", "a.COM"},
	{"a great letter ahead", "A.com"},
	{"a dot at the end", "a.com."},
	{"a dot ahead", ".com"},
	{"an empty part", "a..com"},
	{"a rune", "é.com"},
	{"a code in great letters", "XN--9CA.com"},
	{"no code", "xn--99999999.com"},
	{"a star", "*.com"},
	{"a star alone", "*"},
	{"a mark ahead", "!a.com"},
	{"a blank ahead", " a.com"},
	{"a blank behind", "a.com "},
	{"a blank alone", " "},
	{"a line's end", "a.com\n"},
	{"a hyphen at the end", "a-.com"},
	{"a hyphen at the beginning", "-a.com"},
	{"a line below", "a_b.com"},
	{"a port", "a.com:80"},
	{"a path", "a.com/"},
	{"a percent", "%61.com"},
	{"brackets", "[::1]"},
	{"a label that is too long", tooLong + ".com"},
	{"one byte more than MaxName", tooMuch},
	{"a byte 0", "a\x00.com"},
	{"a byte 255", "\xff.com"},
}

const ruleLabel = `[a-z0-9](?:[a-z0-9-]{0,61}[a-z0-9])?`

var (
	plainForm  = regexp.MustCompile(`^(?:\*|` + ruleLabel + `)(?:\.` + ruleLabel + `){0,7}$`)
	exceptForm = regexp.MustCompile(`^!` + ruleLabel + `(?:\.` + ruleLabel + `){1,7}$`)
)

func wantRuleLine(r impl.SiteRule) string {
	line := ""
	for _, part := range r.Parts {
		line = "." + part + line
	}
	line = strings.TrimPrefix(line, ".")
	if r.Except {
		line = "!" + line
	}
	return line
}

// wantRuleOk goes by the rule's line, whose form it is, and asks that no part
// has a dot of its own.
func wantRuleOk(r impl.SiteRule) bool {
	for _, part := range r.Parts {
		if strings.ContainsAny(part, ".!") || part == "" {
			return false
		}
	}
	line := wantRuleLine(r)
	if r.Except {
		return exceptForm.MatchString(line)
	}
	return plainForm.MatchString(line)
}

func wantRulesText(l rules) (string, bool) {
	text := ""
	for i, r := range l {
		line := wantRuleLine(r) + "\n"
		if i >= 60 || !wantRuleOk(r) || strings.Contains("\n"+text, "\n"+line) {
			return "", false
		}
		text += line
	}
	return text, true
}

func wantRules(s string) (rules, int) {
	l, lines := rules{}, []string{}
	for i, line := range strings.Split(s, "\n") {
		line = wantLower(strings.Trim(line, " \t\r\n"))
		if line == "" || strings.HasPrefix(line, "//") {
			continue
		}
		right := plainForm.MatchString(line) || exceptForm.MatchString(line)
		if !right || slices.Contains(lines, line) || len(lines) == 60 {
			return rules{}, i
		}
		lines = append(lines, line)
		parts := strings.Split(strings.TrimPrefix(line, "!"), ".")
		slices.Reverse(parts)
		l = append(l, impl.SiteRule{Parts: parts, Except: line[0] == '!'})
	}
	return l, -1
}

func wantFits(r impl.SiteRule, name string) bool {
	fields := strings.Split(name, ".")
	if name == "" {
		fields = nil
	}
	for i, part := range r.Parts {
		at := len(fields) - 1 - i
		if at < 0 || part != "*" && part != fields[at] {
			return false
		}
	}
	return true
}

func wantSuffix(l rules, name string) int {
	if again, ok := wantName(name); !ok || again != name {
		return 0
	}
	plain, excepted := []int{1}, []int{}
	for _, r := range l {
		if wantFits(r, name) && r.Except {
			excepted = append(excepted, len(r.Parts)-1)
		} else if wantFits(r, name) {
			plain = append(plain, len(r.Parts))
		}
	}
	if len(excepted) > 0 {
		return slices.Max(excepted)
	}
	return slices.Max(plain)
}

func wantSite(l rules, h impl.Host) string {
	text := wantHostText(h)
	if text == "" || h.K != impl.HostName {
		return text
	}
	fields := strings.Split(text, ".")
	from := max(len(fields)-1-wantSuffix(l, text), 0)
	return strings.Join(fields[from:], ".")
}

func sameRules(a, b rules) bool {
	return slices.EqualFunc(a, b, func(x, y impl.SiteRule) bool {
		return x.Except == y.Except && slices.Equal(x.Parts, y.Parts)
	})
}

// checkRules holds rules against a telling of their own, and right ones
// against the promise that they come back.
func checkRules(t *testing.T, l rules) {
	t.Helper()
	want, right := wantRulesText(l)
	if got := impl.RulesOk(l); got != right {
		t.Fatalf("RulesOk(%v) = %v", l, got)
	}
	text := impl.RulesText(l)
	if text != want {
		t.Fatalf("RulesText(%v) = %q; want %q", l, text, want)
	}
	if !right {
		return
	}
	if back, bad := impl.ParseRules(text); bad != -1 || !sameRules(back, l) {
		t.Fatalf("ParseRules(%q) = %v, %d; want %v", text, back, bad, l)
	}
}

// checkRulesText holds ParseRules against a telling of its own, and what it
// reads against the promise.
func checkRulesText(t *testing.T, s string) {
	t.Helper()
	want, line := wantRules(s)
	l, bad := impl.ParseRules(s)
	if bad != line || !sameRules(l, want) {
		t.Fatalf("ParseRules(%q) = %v, %d; want %v, %d", s, l, bad, want, line)
	}
	if !impl.RulesOk(l) {
		t.Fatalf("ParseRules(%q) gives rules that are not right: %v", s, l)
	}
	checkRules(t, l)
}

func checkSuffix(t *testing.T, l rules, name string) {
	t.Helper()
	for _, r := range l {
		if got := impl.Fits(r, name); got != wantFits(r, name) {
			t.Fatalf("Fits(%v, %q) = %v", r, name, got)
		}
	}
	if got := impl.SuffixParts(l, name); got != wantSuffix(l, name) {
		t.Fatalf("SuffixParts(%v, %q) = %d; want %d", l, name, got, wantSuffix(l, name))
	}
	checkSite(t, l, nameHost(name))
}

// checkSite asks for the promise, too: the site of a name ends it, and under
// right rules it is the name, or stands behind a dot of it; and it is its own.
func checkSite(t *testing.T, l rules, h impl.Host) {
	t.Helper()
	site := impl.SiteOf(l, h)
	if want := wantSite(l, h); site != want {
		t.Fatalf("SiteOf(%v, %+v) = %q; want %q", l, h, site, want)
	}
	if h.K == impl.HostName && !strings.HasSuffix(h.Name, site) {
		t.Fatalf("SiteOf(%v, %q) = %q, which does not end it", l, h.Name, site)
	}
	if h.K != impl.HostName || !impl.HostOk(h) || !impl.RulesOk(l) {
		return
	}
	if site == "" || site != h.Name && !strings.HasSuffix(h.Name, "."+site) {
		t.Fatalf("SiteOf(%v, %q) = %q, which is no end of its parts", l, h.Name, site)
	}
}

func TestMaxRulesHasItsNumber(t *testing.T) {
	if impl.MaxRules != 60 {
		t.Error(impl.MaxRules)
	}
}

func TestRightRules(t *testing.T) {
	for _, x := range rightRules {
		if !impl.RulesOk(x.l) {
			t.Errorf("%s: RulesOk(%v) is false", x.why, x.l)
		}
		if text := impl.RulesText(x.l); text != x.text {
			t.Errorf("%s: RulesText(%v) = %q; want %q", x.why, x.l, text, x.text)
		}
		if back, bad := impl.ParseRules(x.text); bad != -1 || !sameRules(back, x.l) {
			t.Errorf("%s: ParseRules(%q) = %v, %d", x.why, x.text, back, bad)
		}
		checkRules(t, x.l)
		checkRulesText(t, x.text)
	}
}

func TestWrongRules(t *testing.T) {
	for _, x := range wrongRules {
		for _, l := range []rules{{x.r}, {x.r, plainRule("fine")}, {plainRule("fine"), x.r}, {plainRule("fine"), x.r, exceptRule("fine", "a")}} {
			if impl.RulesOk(l) || impl.RulesText(l) != "" {
				t.Errorf("%s: %v is taken for right: %q", x.why, l, impl.RulesText(l))
			}
			checkRules(t, l)
		}
	}
}

func TestRulesThatAreAlike(t *testing.T) {
	for _, r := range []impl.SiteRule{plainRule("com"), plainRule("uk", "co"), plainRule("*"), plainRule("jp", "*"), exceptRule("jp", "kobe")} {
		again := impl.SiteRule{Parts: slices.Clone(r.Parts), Except: r.Except}
		for _, l := range []rules{{r, r}, {r, again}, {plainRule("a"), r, again}, {r, plainRule("a"), again}, {r, plainRule("a"), exceptRule("b", "c"), plainRule("d"), again}} {
			if impl.RulesOk(l) || impl.RulesText(l) != "" {
				t.Errorf("two alike of %v are right", l)
			}
			checkRules(t, l)
		}
	}
}

func TestRulesOfAboutMaxRules(t *testing.T) {
	for many := 55; many <= 65; many++ {
		l := manyRules(many)
		if impl.RulesOk(l) != (many <= 60) || (impl.RulesText(l) == "") != (many > 60) {
			t.Errorf("%d rules: %v, %q", many, impl.RulesOk(l), impl.RulesText(l))
		}
		checkRules(t, l)
	}
}

func TestRuleTextsOfAboutMaxRules(t *testing.T) {
	most, _ := wantRulesText(manyRules(60))
	for _, x := range []struct {
		why, s string
		line   int
	}{
		{"as many as may be", most, -1},
		{"with lines behind that are passed over", most + "\n// x\n \n", -1},
		{"with lines ahead that are passed over", "// x\n\n" + most, -1},
		{"one more", most + "a\n", 60},
		{"one more, no byte 10", most + "a", 60},
		{"two more", most + "a\nb\n", 60},
		{"one more behind lines that are passed over", most + "\n//\na\n", 62},
		{"one more, lines ahead that are passed over", "\n\n\n" + most + "a", 63},
		{"one more that was there", most + "r0\n", 60},
		{"one more that is no rule", most + "!\n", 60},
		{"a line that is none, ahead of one more", "!\n" + most + "a", 0},
	} {
		l, bad := impl.ParseRules(x.s)
		if bad != x.line || (len(l) == 60) != (x.line == -1) || x.line != -1 && len(l) != 0 {
			t.Errorf("%s: %d rules, %d; want %d", x.why, len(l), bad, x.line)
		}
		checkRulesText(t, x.s)
	}
}

func TestOtherRuleTexts(t *testing.T) {
	for _, x := range otherRuleTexts {
		l, bad := impl.ParseRules(x.s)
		if text := impl.RulesText(l); bad != -1 || text != x.text {
			t.Errorf("%s: ParseRules(%q) = %v, %d; want those of %q", x.why, x.s, l, bad, x.text)
		}
		checkRulesText(t, x.s)
	}
}

func TestNoRuleTexts(t *testing.T) {
	for _, x := range noRuleTexts {
		if l, bad := impl.ParseRules(x.s); len(l) != 0 || bad != x.line {
			t.Errorf("%s: ParseRules(%q) = %v, %d; want %d", x.why, x.s, l, bad, x.line)
		}
		checkRulesText(t, x.s)
		ahead := "a0\n\n  // x\n!a0.b\n"
		if l, bad := impl.ParseRules(ahead + x.s); len(l) != 0 || bad != x.line+4 {
			t.Errorf("%s: behind four lines %v, %d", x.why, l, bad)
		}
		checkRulesText(t, ahead+x.s)
	}
}

func TestParseRulesOfEveryByte(t *testing.T) {
	for c := range 256 {
		b := oneByte(c)
		for _, whole := range []string{"co.uk", "!a.b", "*.a\n", "// x\nb"} {
			for at := range len(whole) + 1 {
				checkRulesText(t, whole[:at]+b+whole[at:])
				checkRulesText(t, whole[:at]+b)
			}
		}
		for _, s := range []string{b, b + b, b + "a", "a" + b, b + "." + b, "!" + b, "*" + b, "/" + b} {
			checkRulesText(t, s)
		}
		for _, r := range []impl.SiteRule{plainRule(b), plainRule("a", b), plainRule(b, "a"), exceptRule("a", "b"+b), exceptRule("a", b+"b"), exceptRule("a", b)} {
			checkRules(t, rules{r})
		}
	}
}

func TestParseRulesOfEveryShortText(t *testing.T) {
	eachText("a.*!\n/", 6, func(s string) { checkRulesText(t, s) })
	eachText("A-\n\r 1", 5, func(s string) { checkRulesText(t, s) })
}

func TestRuleTextsOfEveryManyParts(t *testing.T) {
	for many := 1; many <= 12; many++ {
		name := strings.Repeat("a.", many-1)
		for _, s := range []string{name + "b", name + "*", "!" + name + "b", "*." + name + "b", "!*." + name + "b"} {
			checkRulesText(t, s)
		}
		parts := slices.Repeat([]string{"a"}, many)
		checkRules(t, rules{plainRule(parts...)})
		checkRules(t, rules{exceptRule(parts...)})
		for at := range many {
			odd := slices.Clone(parts)
			odd[at] = "*"
			checkRules(t, rules{plainRule(odd...)})
			checkRules(t, rules{exceptRule(odd...)})
			checkSuffix(t, rules{plainRule(odd...), exceptRule(odd...)}, name+"b.a")
			checkSuffix(t, rules{plainRule(odd...)}, name+"a")
		}
	}
}

func TestFits(t *testing.T) {
	for _, x := range fits {
		if got := impl.Fits(x.r, x.name); got != x.fits {
			t.Errorf("%s: Fits(%v, %q) = %v", x.why, x.r, x.name, got)
		}
		checkSuffix(t, rules{x.r}, x.name)
	}
}

func TestSites(t *testing.T) {
	for _, x := range sites {
		if got := impl.SuffixParts(x.l, x.name); got != x.suffix {
			t.Errorf("%s: SuffixParts(%v, %q) = %d; want %d", x.why, x.l, x.name, got, x.suffix)
		}
		if got := impl.SiteOf(x.l, nameHost(x.name)); got != x.site {
			t.Errorf("%s: SiteOf(%v, %q) = %q; want %q", x.why, x.l, x.name, got, x.site)
		}
		checkSuffix(t, x.l, x.name)
		turned := slices.Clone(x.l)
		slices.Reverse(turned)
		if got := impl.SuffixParts(turned, x.name); got != x.suffix {
			t.Errorf("%s: SuffixParts of the rules turned round: %d; want %d", x.why, got, x.suffix)
		}
	}
}

func TestSuffixPartsOfNoNames(t *testing.T) {
	all := []rules{nil, benchRules, {plainRule("*")}, {plainRule()}, {exceptRule()}, {exceptRule("com"), plainRule("COM"), plainRule("")}}
	for _, x := range noSuffixNames {
		for _, l := range all {
			if got := impl.SuffixParts(l, x.s); got != 0 {
				t.Errorf("%s: SuffixParts(%v, %q) = %d", x.why, l, x.s, got)
			}
			if got := impl.SiteOf(l, nameHost(x.s)); got != "" {
				t.Errorf("%s: SiteOf(%v, %q) = %q", x.why, l, x.s, got)
			}
			checkSuffix(t, l, x.s)
		}
	}
}

// A name that ends in a number is a name, as of chapter 4, but no host's.
func TestSuffixPartsOfNamesThatAreNoHosts(t *testing.T) {
	l := rules{plainRule("4", "3"), plainRule("0x1")}
	for name, many := range map[string]int{"1.2.3.4": 2, "a.4": 1, "3.4": 2, "7": 1, "a.0x1": 1} {
		if got := impl.SuffixParts(l, name); got != many {
			t.Errorf("SuffixParts(%q) = %d; want %d", name, got, many)
		}
		if got := impl.SiteOf(l, nameHost(name)); got != "" {
			t.Errorf("SiteOf(%q) = %q", name, got)
		}
		checkSuffix(t, l, name)
	}
}

func TestSiteOfAddresses(t *testing.T) {
	all := []rules{nil, benchRules, {plainRule("*")}, {plainRule("4")}, {exceptRule("4", "3")}, {exceptRule()}, {plainRule("4", "3", "2")}}
	for _, l := range all {
		for _, x := range rightHosts {
			if got := impl.SiteOf(l, x.h); x.h.K != impl.HostName && got != x.text {
				t.Errorf("%s: SiteOf(%v, %+v) = %q; want %q", x.why, l, x.h, got, x.text)
			}
			checkSite(t, l, x.h)
		}
	}
}

func TestSiteOfWrongHosts(t *testing.T) {
	for _, l := range []rules{nil, benchRules, {plainRule("*")}, {exceptRule()}} {
		for _, x := range wrongHosts {
			if got := impl.SiteOf(l, x.h); got != "" {
				t.Errorf("%s: SiteOf(%v, %+v) = %q", x.why, l, x.h, got)
			}
			checkSite(t, l, x.h)
		}
	}
}

// Each rule that is not right, alone and beside right ones.
func TestSitesByWrongRules(t *testing.T) {
	names := []string{"com", "a.com", "b.a.com", "kobe.jp", "x.city.kobe.jp", "b.x.a", "a.b.c.d.e.f.g.h.i", "z.a.b.c.d.e.f.g.h.i", "uk", "co.uk", "a.co.uk", ""}
	for _, x := range wrongRules {
		for _, name := range names {
			checkSuffix(t, rules{x.r}, name)
			checkSuffix(t, append(slices.Clone(benchRules), x.r), name)
			checkSuffix(t, append(rules{x.r}, benchRules...), name)
		}
	}
}

func TestSitesOfEveryShortName(t *testing.T) {
	l := rules{plainRule("a"), plainRule("a", "b"), plainRule("b", "*"), exceptRule("b", "a"), plainRule("b", "a", "a"), exceptRule("a", "b", "b")}
	eachText("ab.", 7, func(s string) { checkSuffix(t, l, s) })
	eachText("aA.*-", 5, func(s string) { checkSuffix(t, rules{plainRule("a", "*"), plainRule("*"), exceptRule("a", "a")}, s) })
}

// someRule is right or nearly so.
func someRule(turn *rand.Rand, pieces []string) impl.SiteRule {
	r := impl.SiteRule{Except: turn.Intn(4) == 0}
	for range turn.Intn(5) {
		r.Parts = append(r.Parts, pieces[turn.Intn(len(pieces))])
	}
	if turn.Intn(4) == 0 {
		r.Parts = append(r.Parts, "*")
	}
	return r
}

func TestSitesOfManyRules(t *testing.T) {
	turn := rand.New(rand.NewSource(14))
	pieces := []string{"a", "a", "b", "b", "c", "com", "a-b", "xn--9ca", "A", "", "*", "-", "a.b"}
	for range 20000 {
		of := pieces[:2+turn.Intn(len(pieces)-1)]
		l := rules{}
		for range turn.Intn(8) {
			l = append(l, someRule(turn, of))
		}
		checkRules(t, l)
		fields := []string{}
		for range 1 + turn.Intn(6) {
			fields = append(fields, of[turn.Intn(len(of))])
		}
		checkSuffix(t, l, strings.Join(fields, "."))
	}
}

func TestRuleTextsOfManyPieces(t *testing.T) {
	turn := rand.New(rand.NewSource(15))
	pieces := []string{"a", "b", "COM", "uk", ".", ".", ".", "*.", "!", "\n", "\n", "\n", "// x\n", " ", "\t", "\r\n", "-", "é", "/", "\x00"}
	for range 40000 {
		of := pieces[:8+turn.Intn(len(pieces)-7)]
		s := ""
		for range turn.Intn(20) {
			s += of[turn.Intn(len(of))]
		}
		checkRulesText(t, s)
	}
	for range 2000 {
		s := ""
		for range turn.Intn(80) {
			s += strings.Repeat("\n", 1+turn.Intn(2)) + pieces[turn.Intn(4)] + strconv.Itoa(turn.Intn(2000))
		}
		checkRulesText(t, s)
	}
}

func TestSitesOfVeryMany(t *testing.T) {
	l := append(manyRules(5000), plainRule("c", "b"))
	if got := impl.SiteOf(l, nameHost("z.a.b.c")); got != "a.b.c" {
		t.Error(got)
	}
	if impl.RulesOk(l) {
		t.Error("very many rules are right")
	}
	if l, bad := impl.ParseRules(strings.Repeat("\n", 100000) + "."); len(l) != 0 || bad != 100000 {
		t.Error(len(l), bad)
	}
	parts := slices.Repeat([]string{"a"}, 100000)
	checkSuffix(t, rules{plainRule(parts...), exceptRule(parts...)}, manyLabels)
	if name := strings.Join(parts, "."); !impl.Fits(plainRule(parts...), name) || impl.Fits(plainRule(parts...), name[2:]) {
		t.Error("very many parts")
	}
}

// roomyRules are lists with more behind their length, which a call must
// neither read nor write.
func roomyRules() (room rules, partRoom [][]string) {
	for _, r := range append(slices.Clone(benchRules), plainRule("zz", "BAD"), exceptRule("jp")) {
		parts := append(slices.Clone(r.Parts), "*", "BAD", "")
		partRoom = append(partRoom, parts)
		room = append(room, impl.SiteRule{Parts: parts[:len(r.Parts)], Except: r.Except})
	}
	return room, partRoom
}

func TestSitesLeaveTheirRules(t *testing.T) {
	room, partRoom := roomyRules()
	before, partsBefore := roomyRules()
	l := room[:len(benchRules)]
	if text := impl.RulesText(l); !impl.RulesOk(l) || text != "com\nuk\nco.uk\njp\n*.kobe.jp\n!city.kobe.jp\n" {
		t.Errorf("behind the lists' length something is read: %q", text)
	}
	for _, x := range sites {
		if x.site != impl.SiteOf(x.l, nameHost(x.name)) {
			t.Error(x.why)
		}
		impl.SiteOf(l, nameHost(x.name))
		impl.SuffixParts(l, x.name)
		for _, r := range l {
			impl.Fits(r, x.name)
		}
	}
	if got := impl.SiteOf(l, nameHost("www.a.jp")); got != "a.jp" {
		t.Errorf("behind the lists' length something is read: %q", got)
	}
	if !reflect.DeepEqual(room, before) || !reflect.DeepEqual(partRoom, partsBefore) {
		t.Error("written into the rules, or behind them", room, partRoom)
	}
}

func TestSitesAreNewMemory(t *testing.T) {
	s := strings.Clone("com\nco.uk\n*.kobe.jp\n!city.kobe.jp\n")
	l, _ := impl.ParseRules(s)
	texts := []string{}
	for _, r := range l {
		texts = append(texts, r.Parts...)
	}
	for _, part := range texts {
		if lies(part, s) {
			t.Errorf("the part %q lies in its argument's memory", part)
		}
	}
	text := impl.RulesText(l)
	for _, part := range append(texts, s) {
		if lies(text, part) {
			t.Errorf("the rules' text lies in the memory of %q", part)
		}
	}
	one := rules{plainRule(strings.Clone("com"))}
	if text := impl.RulesText(one); lies(text, one[0].Parts[0]) {
		t.Error("the text of one rule lies in its part's memory")
	}
	for _, name := range []string{"com", "a.com", "www.a.com", "co.uk", "www.city.kobe.jp", "org"} {
		h := nameHost(strings.Clone(name))
		site := impl.SiteOf(l, h)
		for _, in := range append(texts, h.Name) {
			if lies(site, in) {
				t.Errorf("the site of %q lies in the memory of %q", name, in)
			}
		}
	}
}

// overlap tells whether two lists have room in common, what is behind their
// length included.
func overlap[A, B any](a []A, b []B) bool {
	from, end := roomOf(a)
	at, to := roomOf(b)
	return from < to && at < end
}

func roomOf[T any](l []T) (from, end uintptr) {
	if cap(l) == 0 {
		return 0, 0
	}
	var one T
	from = uintptr(unsafe.Pointer(unsafe.SliceData(l)))
	return from, from + uintptr(cap(l))*unsafe.Sizeof(one)
}

func TestParsedRulesShareNoMemory(t *testing.T) {
	const s = "com\nco.uk\na.b.c\n*.kobe.jp\n!city.kobe.jp\n!a.b\n"
	l, _ := impl.ParseRules(s)
	again, _ := impl.ParseRules(s)
	for i, r := range l {
		for k, other := range l {
			if i != k && overlap(r.Parts, other.Parts) {
				t.Errorf("the rules %d and %d share memory", i, k)
			}
			if overlap(r.Parts, again[k].Parts) {
				t.Errorf("the rule %d shares memory with another answer's", i)
			}
		}
	}
	for i := range l {
		l[i].Except = !l[i].Except
		l[i].Parts[0] = "x"
	}
	if text := impl.RulesText(again); text != s {
		t.Errorf("a second answer shares the first one's memory: %q", text)
	}
	if third, bad := impl.ParseRules(s); bad != -1 || impl.RulesText(third) != s {
		t.Error("a third answer shares the first one's memory")
	}
}

func TestRuleFaultsLeaveNothingBehind(t *testing.T) {
	for _, x := range noRuleTexts {
		impl.ParseRules(x.s)
		impl.SiteOf(rules{exceptRule()}, nameHost("a.com"))
		if l, bad := impl.ParseRules("com\n"); bad != -1 || !sameRules(l, rules{plainRule("com")}) {
			t.Fatalf("%s: behind it ParseRules answers %v, %d", x.why, l, bad)
		}
		if site := impl.SiteOf(nil, nameHost("www.co.uk")); site != "co.uk" {
			t.Fatalf("%s: behind it SiteOf answers %q", x.why, site)
		}
	}
}
