package tests

import (
	"math/rand"
	"regexp"
	"slices"
	"strconv"
	"strings"
	"testing"
	"unicode/utf8"

	"loop.example/g00191/impl"
)

type tokens = []impl.Token

func opens(name string) impl.Token { return impl.Token{K: impl.TokOpen, S: name} }

func closes(name string) impl.Token { return impl.Token{K: impl.TokClose, S: name} }

func says(s string) impl.Token { return impl.Token{K: impl.TokText, S: s} }

const (
	mostTokens  = 3000
	fiveMarks   = `&<>"'`
	fiveEscapes = "&amp;&lt;&gt;&quot;&apos;"
)

// The longest name, of each kind of byte.
const longestName = "abcdefghijklmnopqrstuvwxyzAZ0189:_-.xyzw"

var escapeTexts = []struct{ why, s, escaped string }{
	{"nothing", "", ""},
	{"none of the five", "abc def", "abc def"},
	{"an and", "&", "&amp;"},
	{"a mark's beginning", "<", "&lt;"},
	{"a mark's end", ">", "&gt;"},
	{"two strokes", `"`, "&quot;"},
	{"one stroke", "'", "&apos;"},
	{"all of them", fiveMarks, fiveEscapes},
	{"all of them, and others", "a&b<c>d\"e'f", "a&amp;b&lt;c&gt;d&quot;e&apos;f"},
	{"one twice", "&&", "&amp;&amp;"},
	{"an escape", "&amp;", "&amp;amp;"},
	{"escapes of all", fiveEscapes, "&amp;amp;&amp;lt;&amp;gt;&amp;quot;&amp;apos;"},
	{"a number", "&#65;", "&amp;#65;"},
	{"a hex number", "&#x41;", "&amp;#x41;"},
	{"what is no escape", "&x; & &", "&amp;x; &amp; &amp;"},
	{"marks", "<a href=\"x\">'</a>", "&lt;a href=&quot;x&quot;&gt;&apos;&lt;/a&gt;"},
	{"semicolons, numbers and slashes", ";#x41;/", ";#x41;/"},
	{"runes", "é日\U0001f600", "é日\U0001f600"},
	{"blanks and line's ends", " \t\n\r", " \t\n\r"},
	{"bytes that are no runes", "\xff&\xc3<\x80", "\xff&amp;\xc3&lt;\x80"},
	{"the byte 0", "\x00&\x00", "\x00&amp;\x00"},
}

// Texts that Escape does not write, but that are read.
var unescapeTexts = []struct{ why, s, text string }{
	{"one digit", "&#9;", "\t"},
	{"two digits", "&#65;", "A"},
	{"seven digits", "&#1114111;", "\U0010ffff"},
	{"seven digits, noughts ahead", "&#0000065;", "A"},
	{"one hex digit", "&#x9;", "\t"},
	{"one hex letter, small", "&#xa;", "\n"},
	{"one hex letter, great", "&#xD;", "\r"},
	{"two hex digits", "&#x42;", "B"},
	{"six hex digits", "&#x10ffff;", "\U0010ffff"},
	{"six hex digits, great", "&#x10FFFF;", "\U0010ffff"},
	{"six hex digits, mixed", "&#x10fFfF;", "\U0010ffff"},
	{"six hex digits, noughts ahead", "&#x000041;", "A"},
	{"every hex digit", "&#x1234;&#x5678;&#x9abc;&#xABCD;&#xef1;&#xEF1;", "\u1234\u5678\u9abc\uabcd\u0ef1\u0ef1"},
	{"the least rune", "&#1;&#x1;", "\x01\x01"},
	{"the greatest rune of one byte", "&#127;", "\x7f"},
	{"the least rune of two bytes", "&#128;", "\u0080"},
	{"a rune above 127", "&#233;&#xe9;", "éé"},
	{"the greatest rune of two bytes", "&#2047;", "\u07ff"},
	{"the least rune of three bytes", "&#2048;", "\u0800"},
	{"the rune ahead of what is none", "&#55295;", "\ud7ff"},
	{"the rune behind what is none", "&#57344;", "\ue000"},
	{"the rune that stands for none", "&#65533;", "\ufffd"},
	{"the greatest rune of three bytes", "&#xffff;", "\uffff"},
	{"the least rune of four bytes", "&#x10000;", "\U00010000"},
	{"the five marks by numbers", "&#38;&#60;&#62;&#34;&#39;", fiveMarks},
	{"a number of an and, and what would be an escape", "&#38;lt;", "&lt;"},
	{"an and, and what would be an escape", "&amp;lt;", "&lt;"},
	{"an and, and what would be a number", "&amp;#65;", "&#65;"},
	{"marks as they are", `a<b>c"d'e`, `a<b>c"d'e`},
	{"a semicolon without an and", "a;b", "a;b"},
	{"a semicolon alone", ";", ";"},
	{"a name without an and", "amp;lt;#65;", "amp;lt;#65;"},
	{"a semicolon behind an escape", "&amp;;", "&;"},
	{"escapes side by side", "&lt;&gt;&#65;&#x42;", "<>AB"},
	{"escapes between texts", "a&lt;b&gt;c", "a<b>c"},
	{"beside bytes that are no runes", "\xff&#255;\xc3", "\xffÿ\xc3"},
	{"a number behind a byte that begins a rune", "\xc3&#169;", "\xc3\u00a9"},
}

var noEscapes = []struct{ why, s string }{
	{"an and alone", "&"},
	{"an and at the end", "a&"},
	{"an and behind an escape", "&amp;&"},
	{"an and ahead of an escape", "&&amp;"},
	{"an and, and a blank", "& ;"},
	{"an and ahead of a blank", "a & b"},
	{"no name", "&;"},
	{"no name, and a name", "&;amp;"},
	{"no semicolon", "&amp"},
	{"no semicolon, behind one that has one", "&lt;&amp"},
	{"no semicolon, more behind", "&amp lt"},
	{"a semicolon too late", "&amp lt;"},
	{"no semicolon ahead of the next", "&amp&lt;"},
	{"another name", "&x;"},
	{"another name of marks", "&nbsp;"},
	{"a name with a great letter", "&Amp;"},
	{"a name of great letters", "&LT;"},
	{"a name's beginning", "&am;"},
	{"a name and more", "&ampx;"},
	{"a name and a blank", "&amp ;"},
	{"a blank and a name", "& amp;"},
	{"a name of runes", "&é;"},
	{"another one behind a right one", "&amp;&x;"},
	{"another one ahead of a right one", "&x;&amp;"},
	{"no digits", "&#;"},
	{"no digits, and digits", "&#;65;"},
	{"eight digits", "&#00000065;"},
	{"eight digits of a rune", "&#11111111;"},
	{"a letter among digits", "&#6a;"},
	{"a letter alone", "&#a;"},
	{"a blank among digits", "&#6 5;"},
	{"a blank ahead of digits", "&# 65;"},
	{"a sign ahead of digits", "&#-65;"},
	{"a plus ahead of digits", "&#+65;"},
	{"a number without a semicolon", "&#65"},
	{"a number without a semicolon, more behind", "&#65 a"},
	{"a number sign at the end", "&#"},
	{"two number signs", "&##65;"},
	{"no hex digits", "&#x;"},
	{"seven hex digits", "&#x0000041;"},
	{"seven hex digits of no rune", "&#x1000000;"},
	{"a letter among hex digits", "&#x4g;"},
	{"a hex sign at the end", "&#x"},
	{"a great hex sign", "&#X41;"},
	{"two hex signs", "&#xx41;"},
	{"a sign ahead of hex digits", "&#x-1;"},
	{"a low line among digits", "&#6_5;"},
	{"a hex number without a semicolon", "&#x41"},
	{"hex digits without a number sign", "&x41;"},
	{"a number of 0", "&#0;"},
	{"a number of noughts", "&#0000000;"},
	{"a hex number of 0", "&#x0;"},
	{"a hex number of noughts", "&#x000000;"},
	{"no rune: the first half", "&#55296;"},
	{"no rune: the first half, hex", "&#xd800;"},
	{"no rune: the last half", "&#57343;"},
	{"no rune: the last half, hex", "&#xDFFF;"},
	{"no rune: two halves", "&#xd83d;&#xde00;"},
	{"no rune: past the last", "&#1114112;"},
	{"no rune: past the last, hex", "&#x110000;"},
	{"no rune: the most of seven digits", "&#9999999;"},
	{"no rune: the most of six hex digits", "&#xffffff;"},
}

var tokenTexts = []struct {
	why, s string
	l      tokens
}{
	{"nothing", "", tokens{}},
	{"one pair", "<a></a>", tokens{opens("a"), closes("a")}},
	{"one pair, a text in it", "<a>b</a>", tokens{opens("a"), says("b"), closes("a")}},
	{"pairs within pairs", "<a><b><c></c></b></a>", tokens{opens("a"), opens("b"), opens("c"), closes("c"), closes("b"), closes("a")}},
	{"one name within itself", "<a><a></a></a>", tokens{opens("a"), opens("a"), closes("a"), closes("a")}},
	{"pairs side by side", "<a></a><b></b>", tokens{opens("a"), closes("a"), opens("b"), closes("b")}},
	{"texts ahead, between and behind", "x<a>y</a>z", tokens{says("x"), opens("a"), says("y"), closes("a"), says("z")}},
	{"texts of blanks", " <a>\n</a>\t\r", tokens{says(" "), opens("a"), says("\n"), closes("a"), says("\t\r")}},
	{"texts with escapes", "&lt;<a>&amp;&#233;b</a>&#x41;", tokens{says("<"), opens("a"), says("&éb"), closes("a"), says("A")}},
	{"a text alone", "abc", tokens{says("abc")}},
	{"a text of escapes alone", "&lt;a&gt;", tokens{says("<a>")}},
	{"a text with a mark's end and quotes", `a>b"c'd/e`, tokens{says(`a>b"c'd/e`)}},
	{"a text of the ends of others", "-->?>]]>/>", tokens{says("-->?>]]>/>")}},
	{"a text that ends at a mark, and at the end", "a<b>c", tokens{says("a"), opens("b"), says("c")}},
	{"bytes that are no runes", "\xff<a>\xc3\x00</a>", tokens{says("\xff"), opens("a"), says("\xc3\x00"), closes("a")}},
	{"quotes in texts hold nothing", `"<a>'</a>"<b>`, tokens{says(`"`), opens("a"), says("'"), closes("a"), says(`"`), opens("b")}},
	{"an open alone", "<a>", tokens{opens("a")}},
	{"a close alone", "</a>", tokens{closes("a")}},
	{"two that cross", "<a><b></a></b>", tokens{opens("a"), opens("b"), closes("a"), closes("b")}},

	{"a note", "<!-- a -->", tokens{}},
	{"an empty note", "<!---->", tokens{}},
	{"a note of one byte", "<!--a-->", tokens{}},
	{"a note of hyphens", "<!------->", tokens{}},
	{"a note that could end at its beginning", "<!-->a-->b", tokens{says("b")}},
	{"a note that could end at its beginning, a hyphen more", "<!--->a-->b", tokens{says("b")}},
	{"a note with marks", "<!--<a>&</b>\"'-- >?>]]><!-->", tokens{}},
	{"a note with quotes", `<!-- "-->'`, tokens{says("'")}},
	{"a note with another's end", "<!--?>]]>-->b", tokens{says("b")}},
	{"notes side by side", "<!--a--><!--b--><!---->", tokens{}},
	{"a note between texts", "a<!--b-->c", tokens{says("a"), says("c")}},
	{"a note within a pair", "<a><!--</a>--></a>", tokens{opens("a"), closes("a")}},
	{"behind a note its end", "<!--a-->-->", tokens{says("-->")}},
	{"an instruction", "<?a b?>", tokens{}},
	{"an empty instruction", "<??>", tokens{}},
	{"an instruction of question marks", "<???>", tokens{}},
	{"an instruction that could end at its beginning", "<?>a?>b", tokens{says("b")}},
	{"an instruction with marks", "<?<a>&</b>\"'-->]]><??>", tokens{}},
	{"an instruction with quotes", `<?xml a="?>'`, tokens{says("'")}},
	{"instructions side by side", "<?a?><?b?><??>", tokens{}},
	{"an instruction between texts", "a<?b?>c", tokens{says("a"), says("c")}},
	{"behind an instruction its end", "<?a?>?>", tokens{says("?>")}},
	{"an instruction and a note", "<?a?><!--b-->", tokens{}},

	{"raw text", "<![CDATA[a]]>", tokens{says("a")}},
	{"empty raw text", "<![CDATA[]]>", tokens{}},
	{"raw text with marks", `<![CDATA[<a b="c">&</a>]]>`, tokens{says(`<a b="c">&</a>`)}},
	{"raw text with escapes", "<![CDATA[&lt;&#65;&x;&]]>", tokens{says("&lt;&#65;&x;&")}},
	{"raw text with two brackets", "<![CDATA[a]]b]]>", tokens{says("a]]b")}},
	{"raw text with brackets apart from their end", "<![CDATA[a]] >]]>", tokens{says("a]] >")}},
	{"raw text that ends with a bracket", "<![CDATA[a]]]>", tokens{says("a]")}},
	{"raw text of brackets", "<![CDATA[]]]]>", tokens{says("]]")}},
	{"raw text with its own beginning", "<![CDATA[<![CDATA[]]>", tokens{says("<![CDATA[")}},
	{"raw text with a note", "<![CDATA[<!--]]>-->", tokens{says("<!--"), says("-->")}},
	{"raw text of blanks", "<![CDATA[ \n]]>", tokens{says(" \n")}},
	{"raw texts side by side", "<![CDATA[a]]><![CDATA[b]]>", tokens{says("a"), says("b")}},
	{"raw text between texts", "a<![CDATA[b]]>c", tokens{says("a"), says("b"), says("c")}},
	{"empty raw text between texts", "a<![CDATA[]]>c", tokens{says("a"), says("c")}},
	{"behind raw text its end", "<![CDATA[a]]>]]>", tokens{says("a"), says("]]>")}},
	{"raw text with bytes that are no runes", "<![CDATA[\xff\x00]]>", tokens{says("\xff\x00")}},

	{"a close, a blank", "</a >", tokens{closes("a")}},
	{"a close, another blank", "</a\t>", tokens{closes("a")}},
	{"a close, a line's end", "</a\n>", tokens{closes("a")}},
	{"a close, another line's end", "</a\r>", tokens{closes("a")}},
	{"a close, blanks of each kind", "</a \t\n\r >", tokens{closes("a")}},
	{"a close, a text behind", "</a> b>", tokens{closes("a"), says(" b>")}},

	{"an open, a blank", "<a >", tokens{opens("a")}},
	{"an open, another blank", "<a\t>", tokens{opens("a")}},
	{"an open, a line's end", "<a\n>", tokens{opens("a")}},
	{"an open, another line's end", "<a\rb>", tokens{opens("a")}},
	{"an open, a blank and more", "<a b>", tokens{opens("a")}},
	{"an open, a blank and all that may be", "<a b=c d='e' & < ! ? = ]]>", tokens{opens("a")}},
	{"an open, a text behind", "<a> b>", tokens{opens("a"), says(" b>")}},
	{"an open and a close at once", "<a/>", tokens{opens("a"), closes("a")}},
	{"both at once, behind a blank", "<a />", tokens{opens("a"), closes("a")}},
	{"both at once, behind a line's end", "<a\n/>", tokens{opens("a"), closes("a")}},
	{"both at once, behind more", "<a b/>", tokens{opens("a"), closes("a")}},
	{"both at once, behind a slash", "<a //>", tokens{opens("a"), closes("a")}},
	{"both at once, side by side", "<a/><b/>", tokens{opens("a"), closes("a"), opens("b"), closes("b")}},
	{"both at once, in a pair", "<a><b/></a>", tokens{opens("a"), opens("b"), closes("b"), closes("a")}},
	{"a slash ahead of a blank", "<a / >", tokens{opens("a")}},
	{"a slash within", "<a b/c>", tokens{opens("a")}},
	{"a slash behind a blank, and more", "<a /b>", tokens{opens("a")}},

	{"an end between double quotes", `<a b=">">`, tokens{opens("a")}},
	{"an end between single quotes", `<a b='>'>`, tokens{opens("a")}},
	{"many ends between quotes", `<a b=">>>" c='>>'>>`, tokens{opens("a"), says(">")}},
	{"a double quote between single ones", `<a b='"'>c"`, tokens{opens("a"), says(`c"`)}},
	{"a single quote between double ones", `<a b="'">c'`, tokens{opens("a"), says("c'")}},
	{"a double quote and an end between single ones", `<a b='">"'>c`, tokens{opens("a"), says("c")}},
	{"a single quote and an end between double ones", `<a b="'>'">c`, tokens{opens("a"), says("c")}},
	{"quotes that hold an uneven one of the others", `<a b="'>" c='">'>d`, tokens{opens("a"), says("d")}},
	{"empty quotes", `<a b="" c=''>d`, tokens{opens("a"), says("d")}},
	{"an end between two quoted ones", `<a b="c">"d">`, tokens{opens("a"), says(`"d">`)}},
	{"quotes alone", `<a "b" 'c'>`, tokens{opens("a")}},
	{"quotes side by side", `<a ">"'>'">">b`, tokens{opens("a"), says("b")}},
	{"marks between quotes", `<a b="<c>&</c><!--">d`, tokens{opens("a"), says("d")}},
	{"a quote that ends in a later mark", `<a '><b c='>d`, tokens{opens("a"), says("d")}},
	{"a slash behind quotes", `<a b="c"/>`, tokens{opens("a"), closes("a")}},
	{"a slash behind quotes and a blank", `<a b='c' />`, tokens{opens("a"), closes("a")}},
	{"a slash within double quotes", `<a b="/">`, tokens{opens("a")}},
	{"a slash within single quotes", `<a b='/'>`, tokens{opens("a")}},
	{"a slash and an end within quotes", `<a b="/>">`, tokens{opens("a")}},
	{"a slash and an end within quotes, and behind them", `<a b="/>"/>`, tokens{opens("a"), closes("a")}},

	{"a name of one digit", "<1></1>", tokens{opens("1"), closes("1")}},
	{"names of one mark", "<:></:><_></_><-></-><.></.>", tokens{opens(":"), closes(":"), opens("_"), closes("_"), opens("-"), closes("-"), opens("."), closes(".")}},
	{"names of great letters", "<A></a><Z/>", tokens{opens("A"), closes("a"), opens("Z"), closes("Z")}},
	{"names of each kind of byte", "<aZ:b-1_9.c></aZ:b-1_9.c>", tokens{opens("aZ:b-1_9.c"), closes("aZ:b-1_9.c")}},
	{"the longest name", "<" + longestName + "></" + longestName + ">", tokens{opens(longestName), closes(longestName)}},
	{"the longest name, at once", "<" + longestName + "/>", tokens{opens(longestName), closes(longestName)}},
	{"the longest name, and more", "<" + longestName + " b='c'>", tokens{opens(longestName)}},
	{"the longest name, and blanks", "</" + longestName + " \n>", tokens{closes(longestName)}},
	{"hyphens behind a name's beginning", "<a--></a-->", tokens{opens("a--"), closes("a--")}},
}

var noTokenTexts = []struct {
	why, s string
	fault  int
}{
	{"a beginning alone", "<", impl.XmlEnd},
	{"a beginning at the end", "a<", impl.XmlEnd},
	{"a beginning behind a mark", "<a><", impl.XmlEnd},
	{"no end", "<a", impl.XmlEnd},
	{"no end, a blank", "<a ", impl.XmlEnd},
	{"no end, more", "<a b='c' d", impl.XmlEnd},
	{"no end, a slash", "<a/", impl.XmlEnd},
	{"no end, the next begins", "<a <b", impl.XmlEnd},
	{"no end behind what is right", "<a>b</a><c", impl.XmlEnd},
	{"a close alone", "</", impl.XmlEnd},
	{"a close without an end", "</a", impl.XmlEnd},
	{"a close without an end, blanks", "</a \t", impl.XmlEnd},
	{"a close without an end, the next begins", "</a<b", impl.XmlEnd},
	{"a note that does not end", "<!--", impl.XmlEnd},
	{"a note that does not end, more", "<!--a", impl.XmlEnd},
	{"a note that ends in part", "<!--a--", impl.XmlEnd},
	{"a note that ends with a hyphen too few", "<!--a->", impl.XmlEnd},
	{"a note that ends with its beginning", "<!-->", impl.XmlEnd},
	{"a note that ends with its beginning, a hyphen more", "<!--->", impl.XmlEnd},
	{"a note that ends as another does", "<!--a?>]]>", impl.XmlEnd},
	{"a second note that does not end", "<!--a--><!--b", impl.XmlEnd},
	{"an instruction that does not end", "<?", impl.XmlEnd},
	{"an instruction that does not end, more", "<?a", impl.XmlEnd},
	{"an instruction that ends as a mark does", "<?a>", impl.XmlEnd},
	{"an instruction that ends in part", "<?a?", impl.XmlEnd},
	{"an instruction that ends with its beginning", "<?>", impl.XmlEnd},
	{"an instruction that ends as another does", "<?a-->]]>", impl.XmlEnd},
	{"raw text that does not end", "<![CDATA[", impl.XmlEnd},
	{"raw text that does not end, more", "<![CDATA[a", impl.XmlEnd},
	{"raw text that ends in part", "<![CDATA[a]]", impl.XmlEnd},
	{"raw text that ends with one bracket", "<![CDATA[a]>", impl.XmlEnd},
	{"raw text that ends with its beginning", "<![CDATA[]>", impl.XmlEnd},
	{"raw text that ends as another does", "<![CDATA[a-->?>", impl.XmlEnd},
	{"a double quote that does not end", `<a b="c>`, impl.XmlEnd},
	{"a single quote that does not end", "<a b='c>", impl.XmlEnd},
	{"a quote that does not end, alone", `<a ">`, impl.XmlEnd},
	{"a quote that does not end behind one that does", `<a b="c" d="e>`, impl.XmlEnd},
	{"a quote that the other does not end", `<a b="c'>`, impl.XmlEnd},
	{"a quote that the other does not end, either way", `<a b='c">`, impl.XmlEnd},
	{"a quote that does not end, marks behind", `<a b="c><d/></a>`, impl.XmlEnd},
	{"quotes that end, but nothing else", `<a b=">"`, impl.XmlEnd},

	// Both reasons: what does not end is named first.
	{"no end and no name", "< a", impl.XmlEnd},
	{"no end and no name, a sign", "<!DOCTYPE a", impl.XmlEnd},
	{"no end and no name, a text", "1 < 2", impl.XmlEnd},
	{"no end and no name, a note's beginning in part", "<!-", impl.XmlEnd},
	{"no end and no name, raw text's beginning in part", "<![CDATA", impl.XmlEnd},
	{"no end and no name, a close", "</ a", impl.XmlEnd},
	{"no end and something else behind a close's name", "</a b", impl.XmlEnd},
	{"no end and a name that is too long", "<" + longestName + "x", impl.XmlEnd},
	{"no end and a close's name that is too long", "</" + longestName + "x", impl.XmlEnd},
	{"no end and something else behind a name", "<a=b", impl.XmlEnd},
	{"no end and a slash and more behind a name", "<a/b", impl.XmlEnd},
	{"a quote behind a name that does not end", `<a"b>`, impl.XmlEnd},
	{"a quote that does not end, and no name", `<">`, impl.XmlEnd},
	{"a quote that does not end, and a slash behind the name", "<a/'>", impl.XmlEnd},

	{"no name", "<>", impl.XmlForm},
	{"no name, more", "< a>", impl.XmlForm},
	{"no name, a line's end", "<\na>", impl.XmlForm},
	{"no name, a slash behind", "< />", impl.XmlForm},
	{"no name, quotes", `<"a">`, impl.XmlForm},
	{"no name, the next begins", "<<a>", impl.XmlForm},
	{"no name, a type", "<!DOCTYPE a>", impl.XmlForm},
	{"no name, a type with quotes", `<!DOCTYPE a ">">`, impl.XmlForm},
	{"no name, a note with a hyphen too few", "<!-a->", impl.XmlForm},
	{"no name, a note with a blank", "<! --a-->", impl.XmlForm},
	{"no name, raw text in small letters", "<![cdata[a]]>", impl.XmlForm},
	{"no name, raw text with a bracket too few", "<![CDATA a]]>", impl.XmlForm},
	{"no name, raw text with a blank", "<! [CDATA[a]]>", impl.XmlForm},
	{"no name, an equals sign", "<=>", impl.XmlForm},
	{"no name, an and", "<&amp;>", impl.XmlForm},
	{"no name, a rune", "<é>", impl.XmlForm},
	{"no name, a byte that is no rune", "<\xff>", impl.XmlForm},
	{"a text with both signs", "1 < 2 > 3", impl.XmlForm},
	{"a rune in a name", "<aé>", impl.XmlForm},
	{"a name of 41 bytes", "<" + longestName + "x>", impl.XmlForm},
	{"a name of 41 bytes, at once", "<" + longestName + "x/>", impl.XmlForm},
	{"a name of 41 bytes, and more", "<" + longestName + "x b>", impl.XmlForm},
	{"a close's name of 41 bytes", "</" + longestName + "x>", impl.XmlForm},
	{"a close's name of 41 bytes, a blank", "</" + longestName + "x >", impl.XmlForm},
	{"a slash and more behind a name", "<a/b>", impl.XmlForm},
	{"a slash and a blank behind a name", "<a/ >", impl.XmlForm},
	{"two slashes behind a name", "<a//>", impl.XmlForm},
	{"something else behind a name", "<a=b>", impl.XmlForm},
	{"something else behind a name, at once", "<a=/>", impl.XmlForm},
	{"quotes behind a name", `<a"b">`, impl.XmlForm},
	{"the next begins behind a name", "<a<b>", impl.XmlForm},
	{"the byte 11 behind a name", "<a\vb>", impl.XmlForm},
	{"the byte 12 behind a name", "<a\f>", impl.XmlForm},
	{"a blank of two bytes behind a name", "<a\u00a0b>", impl.XmlForm},
	{"a close without a name", "</>", impl.XmlForm},
	{"a close without a name, a blank", "</ >", impl.XmlForm},
	{"a close with a blank ahead of its name", "</ a>", impl.XmlForm},
	{"a close with something else behind its name", "</a b>", impl.XmlForm},
	{"a close with something else right behind its name", "</a=>", impl.XmlForm},
	{"a close with a slash", "</a/>", impl.XmlForm},
	{"a close with a slash behind a blank", "</a />", impl.XmlForm},
	{"a close with quotes", `</a ">">`, impl.XmlForm},
	{"a close with the byte 12", "</a\f>", impl.XmlForm},
	{"a close with two slashes", "<//a>", impl.XmlForm},
	{"a close that the next mark ends", "</a <b>", impl.XmlForm},
	{"an and", "&", impl.XmlForm},
	{"an and in a text", "a & b", impl.XmlForm},
	{"another name", "&x;", impl.XmlForm},
	{"an escape without its end, a mark behind", "&amp<a>;", impl.XmlForm},
	{"an escape that a note parts", "&am<!---->p;", impl.XmlForm},
	{"a text that is wrong within a pair", "<a>&</a>", impl.XmlForm},
	{"a text that is wrong behind a pair", "<a></a>&#0;", impl.XmlForm},

	// From the front: what is wrong first counts.
	{"a wrong text, then no end", "&<a", impl.XmlForm},
	{"a wrong mark, then no end", "<a/b><c", impl.XmlForm},
	{"no end, then a wrong text", "<a 'b>&", impl.XmlEnd},
}

const (
	blankForm  = `[ \t\n\r]`
	nameForm   = `([A-Za-z0-9:_.-]{1,40})`
	quotedForm = `(?:[^>"']|"[^"]*"|'[^']*')*`
)

var (
	passedForm  = regexp.MustCompile(`\A(?:<!--(?s:.*?)-->|<\?(?s:.*?)\?>)`)
	rawForm     = regexp.MustCompile(`\A<!\[CDATA\[((?s:.*?))\]\]>`)
	closeForm   = regexp.MustCompile(`\A</` + nameForm + blankForm + `*>`)
	openForm    = regexp.MustCompile(`\A<` + nameForm + `(|/|` + blankForm + quotedForm + `)>`)
	proseForm   = regexp.MustCompile(`\A[^<]+`)
	endlessForm = regexp.MustCompile(`\A<(?:!--|\?|!\[CDATA\[|/[^>]*\z)`)
	endedForm   = regexp.MustCompile(`\A<(?:/|` + quotedForm + `>)`)
	escapeForm  = regexp.MustCompile(`&(?:amp|lt|gt|quot|apos|#[0-9]{1,7}|#x[0-9a-fA-F]{1,6});`)
	nameAlone   = regexp.MustCompile(`\A` + nameForm + `\z`)
)

func wantEscape(s string) string {
	for i, escaped := range strings.SplitAfter(fiveEscapes, ";")[:5] {
		s = strings.ReplaceAll(s, fiveMarks[i:i+1], escaped)
	}
	return s
}

// wantRuneText is nothing of what is no rune, or 0.
func wantRuneText(number string) string {
	base := 10
	if strings.HasPrefix(number, "x") {
		number, base = number[1:], 16
	}
	n, err := strconv.ParseInt(number, base, 32)
	if err != nil || n == 0 || !utf8.ValidRune(rune(n)) {
		return ""
	}
	return string(rune(n))
}

// wantUnescape counts: each and of the text has to be an escape's.
func wantUnescape(s string) (string, bool) {
	read, wrong := 0, false
	text := escapeForm.ReplaceAllStringFunc(s, func(escaped string) string {
		read++
		name := strings.Trim(escaped, "&;")
		if name[0] != '#' {
			return map[string]string{"amp": "&", "lt": "<", "gt": ">", "quot": `"`, "apos": "'"}[name]
		}
		one := wantRuneText(name[1:])
		wrong = wrong || one == ""
		return one
	})
	if wrong || read < strings.Count(s, "&") {
		return "", false
	}
	return text, true
}

// wantPiece holds the front of a text against one pattern after the other.
func wantPiece(s string) (l tokens, length, fault int) {
	if whole := passedForm.FindString(s); whole != "" {
		return nil, len(whole), impl.XmlGood
	}
	if raw := rawForm.FindStringSubmatch(s); raw != nil {
		if raw[1] != "" {
			l = tokens{says(raw[1])}
		}
		return l, len(raw[0]), impl.XmlGood
	}
	if end := closeForm.FindStringSubmatch(s); end != nil {
		return tokens{closes(end[1])}, len(end[0]), impl.XmlGood
	}
	if begin := openForm.FindStringSubmatch(s); begin != nil {
		l = tokens{opens(begin[1])}
		if strings.HasSuffix(begin[2], "/") {
			l = append(l, closes(begin[1]))
		}
		return l, len(begin[0]), impl.XmlGood
	}
	if prose := proseForm.FindString(s); prose != "" {
		text, ok := wantUnescape(prose)
		if !ok {
			return nil, 0, impl.XmlForm
		}
		return tokens{says(text)}, len(prose), impl.XmlGood
	}
	if endlessForm.MatchString(s) || !endedForm.MatchString(s) {
		return nil, 0, impl.XmlEnd
	}
	return nil, 0, impl.XmlForm
}

func wantTokens(s string) (tokens, int) {
	l := tokens{}
	for s != "" {
		told, length, fault := wantPiece(s)
		if fault != impl.XmlGood {
			return nil, fault
		}
		l, s = append(l, told...), s[length:]
	}
	if len(l) > mostTokens {
		return nil, impl.XmlMany
	}
	return l, impl.XmlGood
}

// wantBalanced takes pairs that stand side by side away, as long as there are
// any.
func wantBalanced(l tokens) bool {
	left := slices.DeleteFunc(slices.Clone(l), func(x impl.Token) bool { return x.K != impl.TokOpen && x.K != impl.TokClose })
	for i := 0; i+1 < len(left); {
		if left[i].K == impl.TokOpen && left[i+1] == closes(left[i].S) {
			left = slices.Delete(left, i, i+2)
			i = max(i-1, 0)
		} else {
			i++
		}
	}
	return len(left) == 0
}

func checkUnescape(t *testing.T, s string) {
	t.Helper()
	text, ok := impl.Unescape(s)
	if want, wantOk := wantUnescape(s); ok != wantOk || text != want {
		t.Fatalf("Unescape(%q) = %q, %v; want %q, %v", s, text, ok, want, wantOk)
	}
}

// checkEscape holds a text against the promise, and against what an escaped
// text is for: it is one token, whatever it says.
func checkEscape(t *testing.T, s string) {
	t.Helper()
	escaped := impl.Escape(s)
	if want := wantEscape(s); escaped != want {
		t.Fatalf("Escape(%q) = %q; want %q", s, escaped, want)
	}
	if back, ok := impl.Unescape(escaped); !ok || back != s {
		t.Fatalf("Unescape(Escape(%q)) = %q, %v", s, back, ok)
	}
	if strings.ContainsAny(escaped, `<>"'`) {
		t.Fatalf("Escape(%q) = %q", s, escaped)
	}
	if l, fault := impl.Tokens(escaped); fault != impl.XmlGood || !slices.Equal(l, tokens{says(s)}) && s != "" {
		t.Fatalf("Tokens(%q) = %v, %d; want the text %q", escaped, l, fault, s)
	}
	checkUnescape(t, s)
}

// checkReadTokens asks of tokens what all that are read have: a text that is not
// empty, or a name.
func checkReadTokens(t *testing.T, s string, l tokens) {
	t.Helper()
	for _, x := range l {
		isName := nameAlone.MatchString(x.S)
		if x.K == impl.TokText && x.S == "" || x.K != impl.TokText && !isName || x.K < impl.TokOpen || x.K > impl.TokText {
			t.Fatalf("Tokens(%q) = %v, with %v", s, l, x)
		}
	}
}

func checkBalanced(t *testing.T, l tokens) {
	t.Helper()
	if balanced, want := impl.Balanced(l), wantBalanced(l); balanced != want {
		t.Fatalf("Balanced(%v) = %v", l, balanced)
	}
}

func checkTokens(t *testing.T, s string) {
	t.Helper()
	l, fault := impl.Tokens(s)
	if want, wantFault := wantTokens(s); fault != wantFault || !slices.Equal(l, want) {
		t.Fatalf("Tokens(%q) = %v, %d; want %v, %d", s, l, fault, want, wantFault)
	}
	checkReadTokens(t, s, l)
	checkBalanced(t, l)
}

func TestEscapeTexts(t *testing.T) {
	for _, x := range escapeTexts {
		if escaped := impl.Escape(x.s); escaped != x.escaped {
			t.Errorf("%s: Escape(%q) = %q; want %q", x.why, x.s, escaped, x.escaped)
		}
		if text, ok := impl.Unescape(x.escaped); !ok || text != x.s {
			t.Errorf("%s: Unescape(%q) = %q, %v; want %q", x.why, x.escaped, text, ok, x.s)
		}
		checkEscape(t, x.s)
		checkEscape(t, x.escaped)
		checkTokens(t, "<a>"+x.escaped+"</a>")
	}
}

func TestUnescapeTexts(t *testing.T) {
	for _, x := range unescapeTexts {
		if text, ok := impl.Unescape(x.s); !ok || text != x.text {
			t.Errorf("%s: Unescape(%q) = %q, %v; want %q", x.why, x.s, text, ok, x.text)
		}
		if text, ok := impl.Unescape("a" + x.s + "&amp;"); !ok || text != "a"+x.text+"&" {
			t.Errorf("%s: beside others Unescape(%q) = %q, %v", x.why, x.s, text, ok)
		}
		checkEscape(t, x.s)
		checkEscape(t, x.text)
		checkTokens(t, x.s)
	}
}

func TestNoEscapes(t *testing.T) {
	for _, x := range noEscapes {
		for _, s := range []string{x.s, "a" + x.s, "&lt;" + x.s, x.s + "&", x.s + x.s} {
			if text, ok := impl.Unescape(s); ok || text != "" {
				t.Errorf("%s: Unescape(%q) = %q, %v", x.why, s, text, ok)
			}
		}
		if l, fault := impl.Tokens("<a>" + x.s + "</a>"); fault != impl.XmlForm || len(l) != 0 {
			t.Errorf("%s: Tokens with %q = %v, %d", x.why, x.s, l, fault)
		}
		checkEscape(t, x.s)
		checkTokens(t, x.s)
	}
}

func TestEscapesOfEveryByte(t *testing.T) {
	checkEscape(t, allBytes())
	for c := range 256 {
		b := oneByte(c)
		for _, s := range []string{b, b + b, "a" + b + "c", "&" + b, "&" + b + ";", "&amp" + b, "&#" + b + ";", "&#6" + b, "&#6" + b + ";", "&#x" + b + ";", "&#x4" + b + ";", "&am" + b + ";", b + "amp;", b + "#65;", "&#x41" + b} {
			checkEscape(t, s)
		}
	}
}

func TestEscapesOfEveryTwoBytes(t *testing.T) {
	for c := range 256 {
		for d := range 256 {
			s := oneByte(c) + oneByte(d)
			if back, ok := impl.Unescape(impl.Escape(s)); !ok || back != s {
				t.Fatalf("Unescape(Escape(%q)) = %q, %v", s, back, ok)
			}
		}
	}
}

func TestEscapesOfEveryShortText(t *testing.T) {
	eachText("&#x;1a", 6, func(s string) { checkUnescape(t, s) })
	eachText(fiveMarks+";a", 5, func(s string) { checkEscape(t, s) })
}

// Every number that six hex digits can tell, with all ways to write some.
func TestNumbersOfEveryRune(t *testing.T) {
	for n := range 0x110000 + 300 {
		isRune := n != 0 && utf8.ValidRune(rune(n))
		for _, s := range []string{"&#" + strconv.Itoa(n) + ";", "&#x" + strconv.FormatInt(int64(n), 16) + ";"} {
			text, ok := impl.Unescape(s)
			if ok != isRune || ok && text != string(rune(n)) || !ok && text != "" {
				t.Fatalf("Unescape(%q) = %q, %v", s, text, ok)
			}
		}
	}
	for _, n := range []int64{0, 1, 38, 65, 127, 128, 233, 55295, 55296, 57343, 57344, 65535, 65536, 1114111, 1114112, 9999999} {
		ten, hex := strconv.FormatInt(n, 10), strconv.FormatInt(n, 16)
		for noughts := range 9 {
			ahead := strings.Repeat("0", noughts)
			for _, s := range []string{"&#" + ahead + ten + ";", "&#x" + ahead + hex + ";", "&#x" + ahead + strings.ToUpper(hex) + ";"} {
				checkUnescape(t, s)
				checkUnescape(t, "a"+s+s)
			}
			if _, ok := impl.Unescape("&#" + ahead + ten + ";"); ok && noughts+len(ten) > 7 {
				t.Errorf("%d digits are read", noughts+len(ten))
			}
			if _, ok := impl.Unescape("&#x" + ahead + hex + ";"); ok && noughts+len(hex) > 6 {
				t.Errorf("%d hex digits are read", noughts+len(hex))
			}
		}
	}
}

func TestNumbersThatWrapRound(t *testing.T) {
	for _, s := range []string{
		"&#4294967361;", "&#18446744073709551681;", "&#x100000041;", "&#x10000000000000041;", "&#-4294967231;",
		"&#" + strings.Repeat("0", 100000) + "65;", "&#" + strings.Repeat("9", 100000) + ";", "&#x" + strings.Repeat("f", 100000) + ";",
	} {
		if text, ok := impl.Unescape(s); ok || text != "" {
			t.Errorf("Unescape(%.40q) = %q, %v", s, text, ok)
		}
	}
}

func TestTokenTexts(t *testing.T) {
	for _, x := range tokenTexts {
		if l, fault := impl.Tokens(x.s); fault != impl.XmlGood || !slices.Equal(l, x.l) {
			t.Errorf("%s: Tokens(%q) = %v, %d; want %v", x.why, x.s, l, fault, x.l)
		}
		checkTokens(t, x.s)
	}
}

// What is right behind a mark is read as if it stood alone.
func TestTokensSideBySide(t *testing.T) {
	for _, x := range tokenTexts {
		for _, y := range tokenTexts {
			l, fault := impl.Tokens(x.s + "<m>" + y.s)
			want := slices.Concat(x.l, tokens{opens("m")}, y.l)
			if fault != impl.XmlGood || !slices.Equal(l, want) {
				t.Fatalf("%s, %s: Tokens(%q) = %v, %d; want %v", x.why, y.why, x.s+"<m>"+y.s, l, fault, want)
			}
		}
		for _, y := range noTokenTexts {
			if l, fault := impl.Tokens(x.s + "<m>" + y.s); fault != y.fault || len(l) != 0 {
				t.Fatalf("%s, %s: Tokens(%q) = %v, %d; want %d", x.why, y.why, x.s+"<m>"+y.s, l, fault, y.fault)
			}
		}
	}
}

func TestNoTokenTexts(t *testing.T) {
	for _, x := range noTokenTexts {
		if l, fault := impl.Tokens(x.s); fault != x.fault || len(l) != 0 {
			t.Errorf("%s: Tokens(%q) = %v, %d; want %d", x.why, x.s, l, fault, x.fault)
		}
		checkTokens(t, x.s)
		checkEscape(t, x.s)
	}
}

// Each beginning of a text that is right is right, or does not end; a text may
// be cut within an escape.
func TestTokensOfBeginnings(t *testing.T) {
	for _, x := range tokenTexts {
		for end := range len(x.s) {
			checkTokens(t, x.s[:end])
			checkTokens(t, x.s[end:])
			if _, fault := impl.Tokens(x.s[:end]); fault == impl.XmlMany || fault == impl.XmlForm && !strings.Contains(x.s[:end], "&") {
				t.Errorf("%s: Tokens(%q): %d", x.why, x.s[:end], fault)
			}
		}
	}
}

func TestTokensOfEveryByte(t *testing.T) {
	for c := range 256 {
		b := oneByte(c)
		for _, whole := range []string{"<ab c='d'>e</ab >", "<!--a--><?b?>", "<![CDATA[a]]>b", "&lt;<a/>", `<a "'">`} {
			for at := range len(whole) + 1 {
				checkTokens(t, whole[:at]+b+whole[at:])
				if at < len(whole) {
					checkTokens(t, whole[:at]+b+whole[at+1:])
				}
			}
		}
		isNameByte := strings.Contains("abcdefghijklmnopqrstuvwxyzABCDEFGHIJKLMNOPQRSTUVWXYZ0123456789:_-.", b)
		for _, s := range []string{"<" + b + ">", "</" + b + ">", "<" + b + "/>", "<a" + b + "c>", "</a" + b + "c>"} {
			_, fault := impl.Tokens(s)
			apart := b == " " || b == "\t" || b == "\n" || b == "\r"
			right := isNameByte || apart && s == "<a"+b+"c>"
			if b != ">" && s != "<//>" && s != "<?>" && (fault == impl.XmlGood) != right {
				t.Errorf("Tokens(%q): %d", s, fault)
			}
			checkTokens(t, s)
		}
	}
}

func TestTokensOfEveryShortText(t *testing.T) {
	eachText(`<>/a "'!`, 6, func(s string) { checkTokens(t, s) })
	eachText("<>!-a", 6, func(s string) {
		checkTokens(t, s)
		checkTokens(t, "<!--"+s)
	})
	eachText("<>?]&;", 5, func(s string) {
		checkTokens(t, s)
		checkTokens(t, "<?"+s)
		checkTokens(t, "<![CDATA["+s)
		checkTokens(t, "</a"+s)
	})
	eachText(`> /"'b`, 6, func(s string) { checkTokens(t, "<a"+s) })
}

func TestMarkNamesOfEveryLength(t *testing.T) {
	for many := range 60 {
		name := strings.Repeat("a", many)
		for _, s := range []string{"<" + name + ">", "<" + name + "/>", "<" + name + " />", "<" + name + "\nb='>'>", "</" + name + ">", "</" + name + " >"} {
			_, fault := impl.Tokens(s)
			want := impl.XmlForm
			if many >= 1 && many <= 40 {
				want = impl.XmlGood
			}
			if s != "</>" && fault != want || s == "</>" && fault != impl.XmlForm {
				t.Errorf("a name of %d bytes: Tokens(%q): %d", many, s, fault)
			}
			checkTokens(t, s)
		}
	}
}

func TestTokensOfManyPieces(t *testing.T) {
	turn := rand.New(rand.NewSource(20))
	right := []string{"<a>", "</a>", "<b c='>'>", "</b >", "<c/>", `<d "/>"/>`, "<!--<-->", "<?>?>", "<![CDATA[]]]]>", "<![CDATA[]]>", "text", "&lt;", "&#x41;", " ", "\n", "'", `"`, ">", "é", "\xff"}
	other := []string{"<", ">", "</", "/>", "<!--", "-->", "<?", "?>", "<![CDATA[", "]]>", "]", "-", "a", longestName, " ", "'", `"`, "&", "&amp;", ";", "#", "=", "\t", "\x00"}
	some := func(of []string, most int) string {
		s := ""
		for range turn.Intn(most) {
			s += of[turn.Intn(len(of))]
		}
		return s
	}
	for range 30000 {
		checkTokens(t, some(right, 20))
		checkTokens(t, some(other, 12))
		checkTokens(t, some(right, 6)+some(other, 4)+some(right, 6))
		checkEscape(t, some(slices.Concat(right, other), 12))
	}
}

// grown writes a text of marks, one way of many, beside the tokens that it
// tells.
func grown(turn *rand.Rand, deep int) (s string, l tokens) {
	for range turn.Intn(5) {
		switch turn.Intn(6) {
		case 0:
			told := []string{"a<b", "&amp;", " ", "é>", "'\""}[turn.Intn(5)]
			s, l = s+"<!---->"+impl.Escape(told)+"<??>", append(l, says(told))
		case 1:
			told := []string{"a<b", "&amp;", "]]", "</a>"}[turn.Intn(4)]
			s, l = s+"<![CDATA["+told+"]]>", append(l, says(told))
		case 2:
			s += []string{"<!--a-->", "<?b?>", "<![CDATA[]]>"}[turn.Intn(3)]
		case 3:
			name := []string{"a", "b:c", longestName}[turn.Intn(3)]
			s, l = s+"<"+name+[]string{"/>", " />", " d='/>'/>"}[turn.Intn(3)], append(l, opens(name), closes(name))
		default:
			if deep == 0 {
				continue
			}
			name := []string{"a", "b:c", longestName}[turn.Intn(3)]
			inner, within := grown(turn, deep-1)
			s += "<" + name + []string{">", " >", " d=\"/>\">", "\n'>'>"}[turn.Intn(4)] + inner + "</" + name + []string{">", " \t>", "\r\n>"}[turn.Intn(3)]
			l = slices.Concat(l, tokens{opens(name)}, within, tokens{closes(name)})
		}
	}
	return s, l
}

func TestTokensOfGrownTexts(t *testing.T) {
	turn := rand.New(rand.NewSource(21))
	for range 5000 {
		s, l := grown(turn, 4)
		told, fault := impl.Tokens(s)
		if fault != impl.XmlGood || !slices.Equal(told, l) {
			t.Fatalf("Tokens(%q) = %v, %d; want %v", s, told, fault, l)
		}
		if !impl.Balanced(told) {
			t.Fatalf("Balanced(%v) = false", told)
		}
		checkTokens(t, s)
		if len(l) > 0 {
			at := turn.Intn(len(l))
			checkBalanced(t, slices.Delete(slices.Clone(l), at, at+1))
			checkBalanced(t, slices.Insert(slices.Clone(l), at, l[turn.Intn(len(l))]))
		}
	}
}

func TestTokensOfAboutMaxTokens(t *testing.T) {
	for _, x := range []struct {
		why, piece string
		many       int
	}{
		{"opens", "<a>", 1},
		{"closes", "</a>", 1},
		{"pairs", "<a></a>", 2},
		{"both at once", "<a/>", 2},
		{"both at once, and a text", "<a/>b", 3},
		{"texts", "a<!---->", 1},
		{"raw texts", "<![CDATA[a]]>", 1},
		{"raw texts that are empty, and opens", "<![CDATA[]]><a>", 1},
		{"what is passed over, and opens", "<!--<a>--><?<a>?><a>", 1},
	} {
		whole := strings.Repeat(x.piece, mostTokens/x.many)
		for _, y := range []struct {
			more string
			many int
		}{
			{"", 0}, {"<!--a--><?b?><![CDATA[]]>", 0}, {"<z>", 1}, {"</z>", 1}, {"<![CDATA[z]]>", 1}, {"<z/>", 2}, {"<z>z</z>", 3}, {whole, mostTokens},
		} {
			l, fault := impl.Tokens(whole + y.more)
			if y.many == 0 && (fault != impl.XmlGood || len(l) != mostTokens) || y.many > 0 && (fault != impl.XmlMany || len(l) != 0) {
				t.Errorf("%s: with %d more: %d, %d tokens", x.why, y.many, fault, len(l))
			}
			checkTokens(t, whole+y.more)
		}
		checkTokens(t, whole[len(x.piece):])
		checkTokens(t, whole[len(x.piece):]+"<z>")
	}
	if l, fault := impl.Tokens(strings.Repeat("<a>", mostTokens-1) + "<z/>"); fault != impl.XmlMany || len(l) != 0 {
		t.Errorf("the close of both at once is one too many: %d, %d tokens", fault, len(l))
	}
	if l, fault := impl.Tokens(strings.Repeat("<a>", mostTokens-1) + "z"); fault != impl.XmlGood || len(l) != mostTokens || l[mostTokens-1] != says("z") {
		t.Errorf("a text is the last one: %d, %d tokens", fault, len(l))
	}
	if l, fault := impl.Tokens(strings.Repeat("<a>", mostTokens) + "z"); fault != impl.XmlMany || len(l) != 0 {
		t.Errorf("a text is one too many: %d, %d tokens", fault, len(l))
	}
}

// Several reasons: that there are too many is named last.
func TestTooManyTokensAndAFault(t *testing.T) {
	for _, many := range []int{mostTokens - 1, mostTokens, mostTokens + 1, 2 * mostTokens} {
		whole := strings.Repeat("<a>", many)
		for _, x := range noTokenTexts {
			if l, fault := impl.Tokens(whole + x.s); fault != x.fault || len(l) != 0 {
				t.Errorf("%s, behind %d tokens: %d; want %d", x.why, many, fault, x.fault)
			}
		}
	}
}

var balancedTokens = []struct {
	why      string
	l        tokens
	balanced bool
}{
	{"nothing", nil, true},
	{"an empty list", tokens{}, true},
	{"a text", tokens{says("a")}, true},
	{"texts alone", tokens{says("a"), says(""), says("a")}, true},
	{"a pair", tokens{opens("a"), closes("a")}, true},
	{"a pair with texts", tokens{says("x"), opens("a"), says("y"), closes("a"), says("z")}, true},
	{"pairs side by side", tokens{opens("a"), closes("a"), opens("b"), closes("b"), opens("a"), closes("a")}, true},
	{"pairs within pairs", tokens{opens("a"), opens("b"), closes("b"), opens("c"), closes("c"), closes("a")}, true},
	{"one name within itself", tokens{opens("a"), opens("a"), closes("a"), closes("a")}, true},
	{"one name within itself, one left", tokens{opens("a"), opens("a"), closes("a")}, false},
	{"one name within itself, one too many", tokens{opens("a"), closes("a"), closes("a")}, false},
	{"a close without an open", tokens{closes("a")}, false},
	{"a close without an open, and then one", tokens{closes("a"), opens("a")}, false},
	{"a close without an open behind a pair", tokens{opens("a"), closes("a"), closes("b")}, false},
	{"an open without a close", tokens{opens("a")}, false},
	{"an open without a close behind a pair", tokens{opens("a"), closes("a"), opens("b")}, false},
	{"an open without a close ahead of a pair", tokens{opens("b"), opens("a"), closes("a")}, false},
	{"a close of another name", tokens{opens("a"), closes("b")}, false},
	{"a close of another name, and its own", tokens{opens("a"), closes("b"), closes("a")}, false},
	{"a name in great letters", tokens{opens("a"), closes("A")}, false},
	{"a name and more", tokens{opens("a"), closes("ab")}, false},
	{"two that cross", tokens{opens("a"), opens("b"), closes("a"), closes("b")}, false},
	{"two that cross within a pair", tokens{opens("c"), opens("a"), opens("b"), closes("a"), closes("b"), closes("c")}, false},
	{"two closes in the order of their opens", tokens{opens("a"), opens("b"), opens("a"), closes("a"), closes("a"), closes("b")}, false},

	{"none that is read: empty names", tokens{opens(""), closes("")}, true},
	{"none that is read: an empty name and another", tokens{opens(""), closes("a")}, false},
	{"none that is read: an empty close", tokens{closes("")}, false},
	{"none that is read: an empty open", tokens{opens("")}, false},
	{"none that is read: names that are none", tokens{opens("< é\xff"), closes("< é\xff")}, true},
	{"none that is read: another kind", tokens{{K: 0, S: "a"}}, true},
	{"none that is read: other kinds alone", tokens{{K: 4, S: "a"}, {K: -1, S: "b"}, {}, {K: 1 << 40}, {K: -1 << 63, S: "a"}}, true},
	{"none that is read: other kinds in a pair", tokens{{K: 4, S: "a"}, opens("a"), {K: 0, S: "a"}, {K: -2, S: "a"}, closes("a"), {K: 5, S: "a"}}, true},
	{"none that is read: another kind ends nothing", tokens{opens("a"), {K: 4, S: "a"}}, false},
	{"none that is read: another kind begins nothing", tokens{{K: 0, S: "a"}, closes("a")}, false},
	{"none that is read: kinds that wrap round", tokens{{K: 1<<32 + 1, S: "a"}, {K: 1<<32 + 2, S: "b"}, {K: 1<<8 + 1, S: "a"}}, true},
	{"a text of a name ends nothing", tokens{opens("a"), says("a")}, false},
}

func TestBalancedTokens(t *testing.T) {
	for _, x := range balancedTokens {
		if balanced := impl.Balanced(x.l); balanced != x.balanced {
			t.Errorf("%s: Balanced(%v) = %v", x.why, x.l, balanced)
		}
		checkBalanced(t, x.l)
		within := slices.Concat(tokens{opens("z"), says("z")}, x.l, tokens{closes("z")})
		if balanced := impl.Balanced(within); balanced != x.balanced {
			t.Errorf("%s: within a pair Balanced(%v) = %v", x.why, within, balanced)
		}
		for _, y := range balancedTokens {
			checkBalanced(t, slices.Concat(x.l, y.l))
		}
	}
}

func TestBalancedOfEveryShortList(t *testing.T) {
	of := tokens{opens("a"), closes("a"), opens("b"), closes("b"), says("a"), {K: 7, S: "a"}}
	eachText("012345", 6, func(row string) {
		l := tokens{}
		for _, c := range []byte(row) {
			l = append(l, of[c-'0'])
		}
		checkBalanced(t, l)
	})
}

func TestTokensOfVeryMany(t *testing.T) {
	const many = 300000
	good := func(s string, length int) func() bool {
		return func() bool {
			l, fault := impl.Tokens(s)
			return fault == impl.XmlGood && len(l) == length
		}
	}
	faulty := func(s string, want int) func() bool {
		return func() bool {
			l, fault := impl.Tokens(s)
			return fault == want && len(l) == 0
		}
	}
	long := strings.Repeat("x", many)
	for _, x := range []struct {
		why string
		ask func() bool
	}{
		{"a long text", good(long, 1)},
		{"a long raw text", good("<![CDATA["+long+"]]>", 1)},
		{"a long note", good("<!--"+long+"-->", 0)},
		{"very many notes", good(strings.Repeat("<!---->", many), 0)},
		{"very many brackets", good("<![CDATA["+strings.Repeat("]]", many)+"]]>", 1)},
		{"very many quotes", good("<a "+strings.Repeat(`">"'>'`, many)+">", 1)},
		{"very many blanks", good("</a"+strings.Repeat(" \t\n\r", many)+">", 1)},
		{"very many escapes", good(strings.Repeat("&lt;", many), 1)},
		{"a long name", faulty("<"+long+">", impl.XmlForm)},
		{"a long name without an end", faulty("<"+long, impl.XmlEnd)},
		{"very many opens", faulty(strings.Repeat("<a>", many), impl.XmlMany)},
		{"very many opens, then no end", faulty(strings.Repeat("<a>", many)+"<", impl.XmlEnd)},
		{"very many beginnings", faulty(strings.Repeat("<", many), impl.XmlEnd)},
		{"very many beginnings of names", faulty(strings.Repeat("<a ", many), impl.XmlEnd)},
		{"very many ands", faulty(strings.Repeat("&", many), impl.XmlForm)},
		{"very many quotes, one too many", faulty("<a "+strings.Repeat(`"`, many+1)+">", impl.XmlEnd)},
		{"a mark that a quote holds", faulty("<a '"+strings.Repeat(">", many), impl.XmlEnd)},
		{"very many of the five", func() bool {
			s := strings.Repeat(fiveMarks, many)
			back, ok := impl.Unescape(impl.Escape(s))
			return ok && back == s
		}},
		{"pairs that are very deep", func() bool {
			l := append(slices.Repeat(tokens{opens("a")}, many), slices.Repeat(tokens{closes("a")}, many)...)
			return impl.Balanced(l) && !impl.Balanced(l[1:]) && !impl.Balanced(l[:len(l)-1])
		}},
	} {
		soon(t, x.why, x.ask, true)
	}
}

// Behind the list's length there is more, which a call must neither read nor
// write.
func TestBalancedLeavesItsTokens(t *testing.T) {
	room := tokens{opens("a"), says("x"), opens("b"), closes("b"), closes("a"), closes("a"), opens("c"), {K: 9, S: "c"}}
	before := slices.Clone(room)
	for many := range len(room) + 1 {
		alone := slices.Clip(slices.Clone(room[:many]))
		if balanced := impl.Balanced(room[:many]); balanced != wantBalanced(alone) {
			t.Errorf("Balanced of the first %d reads behind them", many)
		}
		if !slices.Equal(room, before) {
			t.Fatalf("written into the argument, or behind it: %v", room)
		}
	}
}

func TestTokensAreNewMemory(t *testing.T) {
	s := strings.Clone("ahead<open b='c'>text<![CDATA[raw]]>&lt;=</open ><once/><!--note--><?one?>behind")
	l, fault := impl.Tokens(s)
	again, _ := impl.Tokens(s)
	if fault != impl.XmlGood || len(l) != 9 || !slices.Equal(l, again) {
		t.Fatalf("Tokens(%q) = %v, %d", s, l, fault)
	}
	if overlap(l, again) {
		t.Error("two answers share memory")
	}
	for i, x := range l {
		if lies(x.S, s) {
			t.Errorf("%q lies in its argument's memory", x.S)
		}
		for k, other := range append(slices.Clone(l), again...) {
			if k != i && lies(x.S, other.S) {
				t.Errorf("%q of one token lies in the memory of another's", x.S)
			}
		}
	}
	for i := range l {
		l[i] = says("written")
	}
	_ = append(l, says("written"))
	if third, _ := impl.Tokens(s); !slices.Equal(third, again) {
		t.Errorf("what is written into an answer is in the next: %v", third)
	}
}

func TestEscapesAreNewMemory(t *testing.T) {
	for _, s := range []string{"abc", "a&amp;b", "&lt;", "é", "abc&#65;"} {
		s = strings.Clone(s)
		if lies(impl.Escape(s), s) {
			t.Errorf("Escape(%q) lies in its argument's memory", s)
		}
		if text, _ := impl.Unescape(s); lies(text, s) {
			t.Errorf("Unescape(%q) lies in its argument's memory", s)
		}
	}
}

// What was asked ahead changes no answer.
func TestTokensKeepNothing(t *testing.T) {
	for _, ahead := range noTokenTexts {
		for _, x := range tokenTexts {
			impl.Tokens(ahead.s)
			impl.Unescape(ahead.s)
			impl.Balanced(tokens{opens("a"), opens("b")})
			if l, fault := impl.Tokens(x.s); fault != impl.XmlGood || !slices.Equal(l, x.l) {
				t.Fatalf("%s, behind %s: Tokens(%q) = %v, %d", x.why, ahead.why, x.s, l, fault)
			}
			if !impl.Balanced(nil) {
				t.Fatalf("behind %s nothing is not balanced", ahead.why)
			}
		}
	}
}
