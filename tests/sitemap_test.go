package tests

import (
	"fmt"
	"math"
	"math/rand"
	"regexp"
	"slices"
	"strconv"
	"strings"
	"testing"

	"loop.example/g00191/impl"
)

type entries = []impl.Entry

func listOf(l ...impl.Entry) impl.Sitemap { return impl.Sitemap{Entries: l} }

func indexOf(l ...impl.Entry) impl.Sitemap { return impl.Sitemap{Index: true, Entries: l} }

func at(loc string, prio int) impl.Entry { return impl.Entry{Loc: loc, Prio: prio} }

const mostEntries = 200

var priorityTexts = []struct {
	why, s string
	n      int
}{
	{"nothing", "0", 0},
	{"all", "1", 1000},
	{"nothing, one digit", "0.0", 0},
	{"nothing, two digits", "0.00", 0},
	{"nothing, three digits", "0.000", 0},
	{"all, one digit", "1.0", 1000},
	{"all, two digits", "1.00", 1000},
	{"all, three digits", "1.000", 1000},
	{"one digit", "0.5", 500},
	{"two digits", "0.25", 250},
	{"three digits", "0.125", 125},
	{"the least", "0.001", 1},
	{"the greatest below all", "0.999", 999},
	{"noughts at the end", "0.500", 500},
	{"a nought in the midst", "0.505", 505},
	{"a nought ahead", "0.05", 50},
	{"nines", "0.9", 900},
}

var noPriorityTexts = []struct{ why, s string }{
	{"no bytes", ""},
	{"no digits behind the dot", "0."},
	{"no digits behind the dot, of all", "1."},
	{"nothing ahead of the dot", ".5"},
	{"a dot alone", "."},
	{"two dots", "0.."},
	{"two dots with digits", "0.1.2"},
	{"two dots side by side", "0..5"},
	{"four digits", "0.1234"},
	{"four digits, of noughts", "0.0000"},
	{"four digits, of all", "1.0000"},
	{"more than all", "1.001"},
	{"more than all, one digit", "1.1"},
	{"more than all, two digits", "1.01"},
	{"much more than all", "1.999"},
	{"two", "2"},
	{"two, with digits", "2.0"},
	{"nine", "9"},
	{"ten", "10"},
	{"two noughts", "00"},
	{"a nought ahead", "01"},
	{"a nought ahead, with digits", "00.5"},
	{"a sign below", "-0"},
	{"a sign below, with digits", "-0.5"},
	{"a sign above", "+0.5"},
	{"a sign above, of all", "+1"},
	{"a sign behind the dot", "0.-5"},
	{"a sign above behind the dot", "0.+5"},
	{"a blank ahead", " 0.5"},
	{"a blank behind", "0.5 "},
	{"a blank behind one digit", "1 "},
	{"a blank within", "0. 5"},
	{"a line's end ahead", "\n1"},
	{"a line's end behind", "1\n"},
	{"blanks around", "\t0.5\r"},
	{"a blank alone", " "},
	{"a comma", "0,5"},
	{"a letter", "a"},
	{"a letter behind", "0.5a"},
	{"a hex digit behind the dot", "0.a"},
	{"a letter ahead", "a0.5"},
	{"a power", "1e0"},
	{"a power behind the dot", "0.1e1"},
	{"a hex number", "0x1"},
	{"a low line", "0.1_1"},
	{"a digit of another script", "0.\u0665"},
	{"a byte 0 behind", "1\x00"},
	{"a byte 255", "0.\xff"},
	{"thousandths", "500"},
}

var sitemapTexts = []struct {
	why, s string
	m      impl.Sitemap
}{
	{"a list of none", "<urlset></urlset>", listOf()},
	{"a list of none, at once", "<urlset/>", listOf()},
	{"a list of none, with more in its mark", `<urlset xmlns="http://a.org/x?>" />`, listOf()},
	{"a list of one", "<urlset><url><loc>a</loc></url></urlset>", listOf(at("a", 500))},
	{"a list of one, with a priority", "<urlset><url><loc>a</loc><priority>0.25</priority></url></urlset>", listOf(at("a", 250))},
	{"a list of one, its priority ahead", "<urlset><url><priority>0.25</priority><loc>a</loc></url></urlset>", listOf(at("a", 250))},
	{"a list of several", "<urlset><url><loc>a</loc></url><url><loc>b</loc><priority>1</priority></url><url><priority>0</priority><loc>c</loc></url></urlset>", listOf(at("a", 500), at("b", 1000), at("c", 0))},
	{"a list with one Loc twice", "<urlset><url><loc>b</loc></url><url><loc>a</loc></url><url><loc>b</loc></url></urlset>", listOf(at("b", 500), at("a", 500), at("b", 500))},
	{"a list of lists of none", "<sitemapindex></sitemapindex>", indexOf()},
	{"a list of lists of none, at once", "<sitemapindex />", indexOf()},
	{"a list of lists of one", "<sitemapindex><sitemap><loc>a</loc></sitemap></sitemapindex>", indexOf(at("a", 500))},
	{"a list of lists, with priorities", "<sitemapindex><sitemap><loc>a</loc><priority>1.0</priority></sitemap><sitemap><priority>0.001</priority><loc>b</loc></sitemap></sitemapindex>", indexOf(at("a", 1000), at("b", 1))},
	{"more in every mark", `<urlset a='b'><url c="d>e" ><loc f>a</loc
><priority g='/'>0.5</priority	></url ></urlset >`, listOf(at("a", 500))},

	{"others beside them", "<urlset><url><lastmod>2026-11-18</lastmod><loc>a</loc><changefreq>daily</changefreq><priority>0.5</priority><x/></url></urlset>", listOf(at("a", 500))},
	{"others with more in them", "<urlset><url><x>text<y><z>text</z></y>text</x><loc>a</loc></url></urlset>", listOf(at("a", 500))},
	{"others with a loc in them", "<urlset><url><x><loc>b</loc><loc>c</loc><priority>9</priority></x><loc>a</loc></url></urlset>", listOf(at("a", 500))},
	{"others with an entry in them", "<urlset><url><loc>a</loc><x><url><loc>b</loc></url><sitemap/></x></url></urlset>", listOf(at("a", 500))},
	{"others twice", "<urlset><url><x>1</x><loc>a</loc><x>2</x><x/></url></urlset>", listOf(at("a", 500))},
	{"others of the names of the first ones and of entries", "<urlset><url><urlset/><url/><sitemap/><sitemapindex/><loc>a</loc></url></urlset>", listOf(at("a", 500))},
	{"others that hold their own name", "<urlset><url><x><x>b</x></x><loc>a</loc></url></urlset>", listOf(at("a", 500))},
	{"others of nearly those names", "<urlset><url><Loc>b</Loc><LOC/><locs>c</locs><lo/><x:loc>d</x:loc><loc:x/><Priority>9</Priority><x:priority/><loc>a</loc></url></urlset>", listOf(at("a", 500))},

	{"blanks wherever they may stand", " \t\r\n<urlset> \n<url>\t<loc> a\n</loc \n></url>\r</urlset>\n", listOf(at("a", 500))},
	{"blanks ahead of the first", " \t\r\n<urlset><url><loc>a</loc></url></urlset>", listOf(at("a", 500))},
	{"blanks behind the last", "<urlset><url><loc>a</loc></url></urlset> \t\r\n", listOf(at("a", 500))},
	{"blanks in a list of none", "<urlset> \n </urlset>", listOf()},
	{"blanks between the entries", "<urlset>\n <url><loc>a</loc></url>\n <url><loc>b</loc></url>\n</urlset>", listOf(at("a", 500), at("b", 500))},
	{"blanks in an entry", "<urlset><url> <loc>a</loc>\n\t<priority>0.5</priority>\r</url></urlset>", listOf(at("a", 500))},
	{"blanks in others", "<urlset><url><x> </x> <loc>a</loc></url></urlset>", listOf(at("a", 500))},
	{"blanks around a Loc", "<urlset><url><loc> \t\r\na\n\r\t </loc></url></urlset>", listOf(at("a", 500))},
	{"blanks within a Loc", "<urlset><url><loc> a \n b </loc></url></urlset>", listOf(at("a \n b", 500))},
	{"blanks around a priority", "<urlset><url><loc>a</loc><priority> \t\r\n0.25\n\r\t </priority></url></urlset>", listOf(at("a", 250))},
	{"blanks by escapes", "&#32;<urlset>&#9;<url>&#xa;<loc>&#13;a&#32;</loc>&#x20;</url>&#10;</urlset>&#xD;", listOf(at("a", 500))},
	{"blanks as raw text", "<![CDATA[ ]]><urlset><![CDATA[\n]]><url><![CDATA[\t]]><loc><![CDATA[ a]]></loc><![CDATA[\r]]></url></urlset><![CDATA[ ]]>", listOf(at("a", 500))},
	{"blanks of several parts", " <!--x--> <urlset> <!--x--> <url> <?x?> <loc>a</loc> <!--x--> </url> <!--x--> </urlset> <!--x--> ", listOf(at("a", 500))},
	{"blanks of a part of their own, ahead of a Loc", "<urlset><url><loc> <!--x-->\n<!--x-->a</loc></url></urlset>", listOf(at("a", 500))},
	{"blanks of a part of their own, behind a Loc", "<urlset><url><loc>a<!--x--> <!--x-->\t</loc></url></urlset>", listOf(at("a", 500))},
	{"blanks of a part of their own, within a Loc", "<urlset><url><loc>a<!--x--> <!--x-->b</loc></url></urlset>", listOf(at("ab", 500))},
	{"blanks as raw text of their own, within a Loc", "<urlset><url><loc>a<![CDATA[ \n]]>b</loc></url></urlset>", listOf(at("ab", 500))},
	{"blanks by an escape of their own, within a Loc", "<urlset><url><loc>a<!--x-->&#32;<!--x-->b</loc></url></urlset>", listOf(at("ab", 500))},
	{"blanks at a part's end, within a Loc", "<urlset><url><loc>a <!--x-->b</loc></url></urlset>", listOf(at("a b", 500))},
	{"blanks at a part's beginning, within a Loc", "<urlset><url><loc>a<!--x--> b</loc></url></urlset>", listOf(at("a b", 500))},
	{"blanks of a part of their own, within a priority", "<urlset><url><loc>a</loc><priority>0<!--x--> <!--x-->.5</priority></url></urlset>", listOf(at("a", 500))},

	{"a Loc of parts, by a remark", "<urlset><url><loc>a<!-- x -->b</loc></url></urlset>", listOf(at("ab", 500))},
	{"a Loc of parts, by an instruction", "<urlset><url><loc>a<? x ?>b<??>c</loc></url></urlset>", listOf(at("abc", 500))},
	{"a Loc of parts, by raw text", "<urlset><url><loc>a<![CDATA[<&]]>b</loc></url></urlset>", listOf(at("a<&b", 500))},
	{"a Loc of raw text", "<urlset><url><loc><![CDATA[a?b&c]]></loc></url></urlset>", listOf(at("a?b&c", 500))},
	{"a Loc of raw texts", "<urlset><url><loc><![CDATA[a]]><![CDATA[b]]><![CDATA[]]></loc></url></urlset>", listOf(at("ab", 500))},
	{"a Loc of raw text, escapes in it", "<urlset><url><loc><![CDATA[a&amp;b]]></loc></url></urlset>", listOf(at("a&amp;b", 500))},
	{"a Loc of raw text, marks in it", "<urlset><url><loc><![CDATA[</loc>]]></loc></url></urlset>", listOf(at("</loc>", 500))},
	{"a Loc by escapes", "<urlset><url><loc>a?b&amp;c&lt;&gt;&quot;&apos;&#233;&#x41;</loc></url></urlset>", listOf(at(`a?b&c<>"'éA`, 500))},
	{"a Loc by all of them", "<urlset><url><loc> a<!-- x -->&amp;<![CDATA[&]]>b<?x?>&#99; </loc></url></urlset>", listOf(at("a&&bc", 500))},
	{"a Loc of an escape of an escape", "<urlset><url><loc>&amp;lt;</loc></url></urlset>", listOf(at("&lt;", 500))},
	{"a priority of parts", "<urlset><url><loc>a</loc><priority>0<!--x-->.<![CDATA[2]]>&#53;</priority></url></urlset>", listOf(at("a", 250))},
	{"a remark in an entry that would be a loc", "<urlset><url><!--<loc>b</loc>--><loc>a</loc></url></urlset>", listOf(at("a", 500))},
	{"an instruction ahead", "<?xml version='1.0'?><urlset><url><loc>a</loc></url></urlset>", listOf(at("a", 500))},
	{"remarks ahead and behind", "<?xml version='1.0'?>\n<!-- <urlset> -->\n<urlset><url><loc>a</loc></url></urlset>\n<!-- x -->\n<?x?>", listOf(at("a", 500))},
	{"an empty raw text ahead and behind", "<![CDATA[]]><urlset/><![CDATA[]]>", listOf()},

	{"a Loc that is no address", "<urlset><url><loc>a b</loc></url></urlset>", listOf(at("a b", 500))},
	{"a Loc of one byte", "<urlset><url><loc>0</loc></url></urlset>", listOf(at("0", 500))},
	{"a Loc of bytes that are no runes", "<urlset><url><loc>\xff\x00\xc3</loc></url></urlset>", listOf(at("\xff\x00\xc3", 500))},
	{"a Loc of a blank of two bytes", "<urlset><url><loc>\u00a0</loc></url></urlset>", listOf(at("\u00a0", 500))},
	{"a Loc of the bytes 11 and 12", "<urlset><url><loc> \v\f </loc></url></urlset>", listOf(at("\v\f", 500))},
	{"a Loc with a quote and a mark's end", `<urlset><url><loc>"'></loc></url></urlset>`, listOf(at(`"'>`, 500))},
}

var noSitemapTexts = []struct {
	why, s string
	fault  int
}{
	{"a mark that does not end", "<urlset", impl.MapMarks},
	{"the first one does not end", "<urlset>", impl.MapMarks},
	{"an entry does not end", "<urlset><url><loc>a</loc></urlset>", impl.MapMarks},
	{"a loc does not end", "<urlset><url><loc>a</url></urlset>", impl.MapMarks},
	{"a loc that ends otherwise", "<urlset><url><loc>a</Loc></url></urlset>", impl.MapMarks},
	{"two that cross", "<urlset><url><loc>a</url></loc></urlset>", impl.MapMarks},
	{"an end alone", "</urlset>", impl.MapMarks},
	{"an end more", "<urlset></urlset></urlset>", impl.MapMarks},
	{"an end ahead", "</url><urlset></urlset>", impl.MapMarks},
	{"another does not end", "<urlset><url><loc>a</loc><x></url></urlset>", impl.MapMarks},
	{"a wrong escape", "<urlset><url><loc>a&b</loc></url></urlset>", impl.MapMarks},
	{"a wrong escape in another", "<urlset><url><loc>a</loc><x>&nbsp;</x></url></urlset>", impl.MapMarks},
	{"a wrong escape behind the end", "<urlset/>&", impl.MapMarks},
	{"a remark that does not end", "<urlset/><!--", impl.MapMarks},
	{"raw text that does not end", "<urlset/><![CDATA[ ]]", impl.MapMarks},
	{"a type ahead", "<!DOCTYPE urlset><urlset/>", impl.MapMarks},
	{"a wrong mark", "<urlset/><a/b>", impl.MapMarks},

	{"no text at all", "", impl.MapRoot},
	{"blanks alone", " \t\n\r", impl.MapRoot},
	{"a blank by an escape alone", "&#32;", impl.MapRoot},
	{"a remark alone", "<!-- <urlset/> -->", impl.MapRoot},
	{"an instruction alone", "<?xml version='1.0'?>", impl.MapRoot},
	{"empty raw text alone", "<![CDATA[]]>", impl.MapRoot},
	{"raw text alone", "<![CDATA[<urlset/>]]>", impl.MapRoot},
	{"a text alone", "urlset", impl.MapRoot},
	{"a text by escapes alone", "&lt;urlset/&gt;", impl.MapRoot},
	{"text ahead", "x<urlset/>", impl.MapRoot},
	{"text ahead, among blanks", " x <urlset/>", impl.MapRoot},
	{"text ahead, behind a remark", "<!--a-->x<urlset/>", impl.MapRoot},
	{"text ahead, as raw text", "<![CDATA[x]]><urlset/>", impl.MapRoot},
	{"text ahead, by an escape", "&#120;<urlset/>", impl.MapRoot},
	{"text ahead, a mark of the order of bytes", "\ufeff<urlset/>", impl.MapRoot},
	{"text ahead, a blank of two bytes", "\u00a0<urlset/>", impl.MapRoot},
	{"text ahead, the byte 12", "\f<urlset/>", impl.MapRoot},
	{"text behind", "<urlset/>x", impl.MapRoot},
	{"text behind, among blanks", "<urlset></urlset> x ", impl.MapRoot},
	{"text behind, behind blanks of a part of their own", "<urlset></urlset> <!--x--> x", impl.MapRoot},
	{"text behind, as raw text", "<urlset/><![CDATA[x]]>", impl.MapRoot},
	{"text behind, by an escape", "<urlset/>&#120;", impl.MapRoot},
	{"text behind, the byte 11", "<urlset/>\v", impl.MapRoot},
	{"a second one behind", "<urlset/><urlset/>", impl.MapRoot},
	{"a second one behind, blanks between", "<urlset></urlset>\n<urlset></urlset>", impl.MapRoot},
	{"one of the other kind behind", "<urlset/><sitemapindex/>", impl.MapRoot},
	{"a mark behind", "<urlset/><x/>", impl.MapRoot},
	{"an entry behind", "<urlset/><url><loc>a</loc></url>", impl.MapRoot},
	{"a mark ahead", "<x/><urlset/>", impl.MapRoot},
	{"an entry alone", "<url><loc>a</loc></url>", impl.MapRoot},
	{"a list's entry alone", "<sitemap><loc>a</loc></sitemap>", impl.MapRoot},
	{"a loc alone", "<loc>a</loc>", impl.MapRoot},
	{"a first one of another name", "<a/>", impl.MapRoot},
	{"a first one of great letters", "<URLSET></URLSET>", impl.MapRoot},
	{"a first one of a great letter", "<SitemapIndex></SitemapIndex>", impl.MapRoot},
	{"a first one whose name goes on", "<urlset1/>", impl.MapRoot},
	{"a first one whose name ends early", "<urlse/>", impl.MapRoot},
	{"a first one with a name ahead", "<x:urlset/>", impl.MapRoot},
	{"a first one in another", "<x><urlset/></x>", impl.MapRoot},

	{"a list's entry in a list", "<urlset><sitemap><loc>a</loc></sitemap></urlset>", impl.MapForm},
	{"a list's entry behind one", "<urlset><url><loc>a</loc></url><sitemap><loc>a</loc></sitemap></urlset>", impl.MapForm},
	{"url in a list of lists", "<sitemapindex><url><loc>a</loc></url></sitemapindex>", impl.MapForm},
	{"url in a list of lists behind one", "<sitemapindex><sitemap><loc>a</loc></sitemap><url><loc>a</loc></url></sitemapindex>", impl.MapForm},
	{"text beside the entries", "<urlset>x</urlset>", impl.MapForm},
	{"text ahead of the entries", "<urlset>x<url><loc>a</loc></url></urlset>", impl.MapForm},
	{"text between the entries", "<urlset><url><loc>a</loc></url>,<url><loc>b</loc></url></urlset>", impl.MapForm},
	{"text behind the entries", "<urlset><url><loc>a</loc></url> x</urlset>", impl.MapForm},
	{"raw text behind the entries", "<urlset><url><loc>a</loc></url><![CDATA[x]]></urlset>", impl.MapForm},
	{"text in a list of lists", "<sitemapindex>x</sitemapindex>", impl.MapForm},
	{"another name beside the entries", "<urlset><x/></urlset>", impl.MapForm},
	{"another name ahead of the entries", "<urlset><x/><url><loc>a</loc></url></urlset>", impl.MapForm},
	{"another name behind the entries", "<urlset><url><loc>a</loc></url><x>y</x></urlset>", impl.MapForm},
	{"another name that holds an entry", "<urlset><x><url><loc>a</loc></url></x></urlset>", impl.MapForm},
	{"a name of great letters beside the entries", "<urlset><URL><loc>a</loc></URL></urlset>", impl.MapForm},
	{"a list in a list", "<urlset><urlset/></urlset>", impl.MapForm},
	{"a loc beside the entries", "<urlset><loc>a</loc></urlset>", impl.MapForm},
	{"text alone in an entry", "<urlset><url>x</url></urlset>", impl.MapForm},
	{"text ahead of a loc", "<urlset><url>x<loc>a</loc></url></urlset>", impl.MapForm},
	{"text behind a loc", "<urlset><url><loc>a</loc>x</url></urlset>", impl.MapForm},
	{"text between loc and priority", "<urlset><url><loc>a</loc>,<priority>0.5</priority></url></urlset>", impl.MapForm},
	{"text by an escape in an entry", "<urlset><url><loc>a</loc>&#120;</url></urlset>", impl.MapForm},
	{"raw text in an entry", "<urlset><url><![CDATA[x]]><loc>a</loc></url></urlset>", impl.MapForm},
	{"text in an entry of a list of lists", "<sitemapindex><sitemap><loc>a</loc>x</sitemap></sitemapindex>", impl.MapForm},
	{"no loc", "<urlset><url></url></urlset>", impl.MapForm},
	{"no loc, at once", "<urlset><url/></urlset>", impl.MapForm},
	{"no loc, blanks", "<urlset><url> </url></urlset>", impl.MapForm},
	{"no loc, but a priority", "<urlset><url><priority>0.5</priority></url></urlset>", impl.MapForm},
	{"no loc, but others", "<urlset><url><x>a</x></url></urlset>", impl.MapForm},
	{"no loc, but in another", "<urlset><url><x><loc>a</loc></x></url></urlset>", impl.MapForm},
	{"no loc, but of great letters", "<urlset><url><LOC>a</LOC></url></urlset>", impl.MapForm},
	{"no loc behind one that has it", "<urlset><url><loc>a</loc></url><url/></urlset>", impl.MapForm},
	{"no loc ahead of one that has it", "<urlset><url/><url><loc>a</loc></url></urlset>", impl.MapForm},
	{"no loc in a list of lists", "<sitemapindex><sitemap/></sitemapindex>", impl.MapForm},
	{"an empty loc", "<urlset><url><loc></loc></url></urlset>", impl.MapForm},
	{"an empty loc, at once", "<urlset><url><loc/></url></urlset>", impl.MapForm},
	{"an empty loc, a remark in it", "<urlset><url><loc><!--a--><?b?><![CDATA[]]></loc></url></urlset>", impl.MapForm},
	{"a loc of blanks", "<urlset><url><loc> \t\n\r</loc></url></urlset>", impl.MapForm},
	{"a loc of blanks in parts", "<urlset><url><loc> <!--x-->&#32;<![CDATA[\n]]></loc></url></urlset>", impl.MapForm},
	{"two locs", "<urlset><url><loc>a</loc><loc>b</loc></url></urlset>", impl.MapForm},
	{"two locs alike", "<urlset><url><loc>a</loc><loc>a</loc></url></urlset>", impl.MapForm},
	{"two locs, the second one empty", "<urlset><url><loc>a</loc><loc/></url></urlset>", impl.MapForm},
	{"two locs, the first one empty", "<urlset><url><loc> </loc><loc>a</loc></url></urlset>", impl.MapForm},
	{"two locs, others between", "<urlset><url><loc>a</loc><x/><priority>0.5</priority> <loc>b</loc></url></urlset>", impl.MapForm},
	{"three locs", "<urlset><url><loc>a</loc><loc>b</loc><loc>c</loc></url></urlset>", impl.MapForm},
	{"two priorities", "<urlset><url><loc>a</loc><priority>0.5</priority><priority>0.6</priority></url></urlset>", impl.MapForm},
	{"two priorities alike", "<urlset><url><priority>0.5</priority><loc>a</loc><priority>0.5</priority></url></urlset>", impl.MapForm},
	{"two priorities, one of them wrong", "<urlset><url><loc>a</loc><priority>0.5</priority><priority>x</priority></url></urlset>", impl.MapForm},
	{"two priorities in a list of lists", "<sitemapindex><sitemap><loc>a</loc><priority>1</priority><priority>1</priority></sitemap></sitemapindex>", impl.MapForm},
	{"something begins in a loc", "<urlset><url><loc>a<b/></loc></url></urlset>", impl.MapForm},
	{"something begins in a loc, ahead of the text", "<urlset><url><loc><b/>a</loc></url></urlset>", impl.MapForm},
	{"something begins in a loc, round the text", "<urlset><url><loc><b>a</b></loc></url></urlset>", impl.MapForm},
	{"something begins in a loc, between texts", "<urlset><url><loc>a<b>c</b>d</loc></url></urlset>", impl.MapForm},
	{"a loc in a loc", "<urlset><url><loc><loc>a</loc></loc></url></urlset>", impl.MapForm},
	{"a priority in a loc", "<urlset><url><loc>a<priority>0.5</priority></loc></url></urlset>", impl.MapForm},
	{"something begins in a priority", "<urlset><url><loc>a</loc><priority>0.5<b/></priority></url></urlset>", impl.MapForm},
	{"something begins in a priority, round the text", "<urlset><url><loc>a</loc><priority><b>0.5</b></priority></url></urlset>", impl.MapForm},
	{"something begins in a priority, alone", "<urlset><url><loc>a</loc><priority><b/></priority></url></urlset>", impl.MapForm},
	{"a loc in a priority", "<urlset><url><priority>0.5<loc>a</loc></priority></url></urlset>", impl.MapForm},
	{"an empty priority", "<urlset><url><loc>a</loc><priority></priority></url></urlset>", impl.MapForm},
	{"an empty priority, at once", "<urlset><url><loc>a</loc><priority/></url></urlset>", impl.MapForm},
	{"a priority of blanks", "<urlset><url><loc>a</loc><priority> </priority></url></urlset>", impl.MapForm},
	{"a priority of two", "<urlset><url><loc>a</loc><priority>2</priority></url></urlset>", impl.MapForm},
	{"a priority with a blank within", "<urlset><url><loc>a</loc><priority>0. 5</priority></url></urlset>", impl.MapForm},
	{"a priority with a blank at a part's end", "<urlset><url><loc>a</loc><priority>0 <!--x-->.5</priority></url></urlset>", impl.MapForm},
	{"a priority with the byte 12 behind", "<urlset><url><loc>a</loc><priority>0.5\f</priority></url></urlset>", impl.MapForm},
	{"a wrong priority and no loc", "<urlset><url><priority>x</priority></url></urlset>", impl.MapForm},
}

var (
	priorityForm = regexp.MustCompile(`\A[01](\.[0-9]{1,3})?\z`)
	blankAlone   = regexp.MustCompile(`\A[ \t\n\r]*\z`)
	firstNames   = map[string]string{"urlset": "url", "sitemapindex": "sitemap"}
)

func wantPriority(s string) (int, bool) {
	x, err := strconv.ParseFloat(s, 64)
	if err != nil || !priorityForm.MatchString(s) || x > 1 {
		return 0, false
	}
	return int(math.Round(1000 * x)), true
}

func wantPriorityText(n int) string {
	if n < 0 || n > 1000 {
		return ""
	}
	return fmt.Sprintf("%.3f", float64(n)/1000)
}

// offered is what the tokens of one entry told, faults and all.
type offered struct {
	loc, prio   string
	locs, prios int
}

func (o offered) entry() (impl.Entry, bool) {
	loc := urlBlanks.ReplaceAllString(o.loc, "")
	n, ok := wantPriority(urlBlanks.ReplaceAllString(o.prio, ""))
	if o.prios == 0 {
		n, ok = 500, true
	}
	return at(loc, n), ok && loc != "" && o.locs == 1 && o.prios < 2
}

// wantOffered goes through all tokens once, by the names that have begun and
// not ended, and marks each fault that it meets.
func wantOffered(l tokens) (all []offered, root, form bool) {
	begun := []string{}
	tops := 0
	for _, x := range l {
		deep := len(begun)
		switch {
		case x.K == impl.TokClose:
			begun = begun[:deep-1]
			continue
		case x.K == impl.TokText && blankAlone.MatchString(x.S):
			continue
		case deep == 0:
			tops++
			root = root || tops > 1 || x.K == impl.TokText || firstNames[x.S] == ""
		case deep == 1:
			form = form || x.K == impl.TokText || firstNames[begun[0]] != x.S
			all = append(all, offered{})
		case deep == 2 && x.K == impl.TokText:
			form = true
		case deep == 2 && x.S == "loc":
			all[len(all)-1].locs++
		case deep == 2 && x.S == "priority":
			all[len(all)-1].prios++
		case deep == 3 && (begun[2] == "loc" || begun[2] == "priority") && x.K == impl.TokOpen:
			form = true
		case deep == 3 && begun[2] == "loc":
			all[len(all)-1].loc += x.S
		case deep == 3 && begun[2] == "priority":
			all[len(all)-1].prio += x.S
		}
		if x.K == impl.TokOpen {
			begun = append(begun, x.S)
		}
	}
	return all, root || tops == 0, form
}

func wantSitemap(s string) (impl.Sitemap, int) {
	l, fault := wantTokens(s)
	if fault != impl.XmlGood || !wantBalanced(l) {
		return impl.Sitemap{}, 1
	}
	all, root, form := wantOffered(l)
	first := slices.IndexFunc(l, func(x impl.Token) bool { return x.K == impl.TokOpen })
	m := impl.Sitemap{Index: first >= 0 && l[first].S == "sitemapindex"}
	for _, o := range all {
		e, ok := o.entry()
		form = form || !ok
		m.Entries = append(m.Entries, e)
	}
	switch {
	case root:
		return impl.Sitemap{}, 2
	case form:
		return impl.Sitemap{}, 3
	case len(all) > mostEntries:
		return impl.Sitemap{}, 4
	}
	return m, 0
}

func wantSitemapText(m impl.Sitemap) string {
	first := "urlset"
	if m.Index {
		first = "sitemapindex"
	}
	texts := []string{}
	for _, e := range m.Entries {
		texts = append(texts, fmt.Sprintf("<%[1]s><loc>%[2]s</loc><priority>%[3]s</priority></%[1]s>", firstNames[first], wantEscape(e.Loc), wantPriorityText(e.Prio)))
	}
	return fmt.Sprintf("<%[1]s>%[2]s</%[1]s>", first, strings.Join(texts, ""))
}

// wantInside holds the whole text against the base's, cut behind the last
// slash of its path.
func wantInside(m impl.Sitemap, base impl.Url) entries {
	l := entries{}
	if wantUrlText(base) == "" {
		return l
	}
	base.HasQuery, base.Query = false, ""
	folder := wantUpTo(wantUrlText(base))
	for _, e := range m.Entries {
		if u, fault := wantUrl(e.Loc); fault == 0 && strings.HasPrefix(wantUrlText(u), folder) {
			l = append(l, at(wantUrlText(u), e.Prio))
		}
	}
	return l
}

func sameSitemap(a, b impl.Sitemap) bool {
	return a.Index == b.Index && slices.Equal(a.Entries, b.Entries)
}

// sitemapRight tells whether promise 14 holds for a list: some text gives it.
func sitemapRight(m impl.Sitemap) bool {
	return len(m.Entries) <= mostEntries && !slices.ContainsFunc(m.Entries, func(e impl.Entry) bool {
		return e.Loc == "" || urlBlanks.MatchString(e.Loc) || e.Prio < 0 || e.Prio > 1000
	})
}

func checkPriority(t *testing.T, s string) {
	t.Helper()
	n, ok := impl.ParsePriority(s)
	if want, wantOk := wantPriority(s); n != want || ok != wantOk {
		t.Fatalf("ParsePriority(%q) = %d, %v; want %d, %v", s, n, ok, want, wantOk)
	}
	if back, again := impl.ParsePriority(impl.PriorityText(n)); ok && (back != n || !again) {
		t.Fatalf("ParsePriority(PriorityText(%d)) = %d, %v", n, back, again)
	}
}

// checkList holds a list against a telling of its text, and against promise
// 14; what is written of one that no text gives is read as it stands.
func checkList(t *testing.T, m impl.Sitemap) {
	t.Helper()
	text := impl.SitemapText(m)
	if want := wantSitemapText(m); text != want {
		t.Fatalf("SitemapText(%v) = %q; want %q", m, text, want)
	}
	for _, s := range []string{text, " \n<?xml version='1.0'?>\n<!-- > -->\t" + text + "\r\n<!-- < -->\n<?x?> "} {
		back, fault := impl.ParseSitemap(s)
		if sitemapRight(m) && (fault != impl.MapGood || !sameSitemap(back, m)) {
			t.Fatalf("ParseSitemap(%q) = %v, %d; want %v", s, back, fault, m)
		}
		if want, wantFault := wantSitemap(s); fault != wantFault || !sameSitemap(back, want) {
			t.Fatalf("ParseSitemap(%q) = %v, %d; want %v, %d", s, back, fault, want, wantFault)
		}
	}
}

func checkSitemap(t *testing.T, s string) {
	t.Helper()
	m, fault := impl.ParseSitemap(s)
	if want, wantFault := wantSitemap(s); fault != wantFault || !sameSitemap(m, want) {
		t.Fatalf("ParseSitemap(%q) = %v, %d; want %v, %d", s, m, fault, want, wantFault)
	}
	if fault != impl.MapGood && !sameSitemap(m, impl.Sitemap{}) {
		t.Fatalf("ParseSitemap(%q) = %v, %d; want the zero one beside it", s, m, fault)
	}
	if !sitemapRight(m) {
		t.Fatalf("ParseSitemap(%q) = %v, which is not right", s, m)
	}
	checkList(t, m)
}

func checkNoSitemap(t *testing.T, why, s string, fault int) {
	t.Helper()
	if m, got := impl.ParseSitemap(s); got != fault || !sameSitemap(m, impl.Sitemap{}) {
		t.Errorf("%s: ParseSitemap(%.200q) = %v, %d; want the zero one and %d", why, s, m, got, fault)
	}
	checkSitemap(t, s)
}

func checkInside(t *testing.T, m impl.Sitemap, base impl.Url) {
	t.Helper()
	if l, want := impl.Inside(m, base), wantInside(m, base); !slices.Equal(l, want) {
		t.Fatalf("Inside(%v, %+v) = %v; want %v", m, base, l, want)
	}
}

func TestSitemapNumbers(t *testing.T) {
	if impl.MaxEntries != 200 || impl.MapGood != 0 || impl.MapMarks != 1 || impl.MapRoot != 2 || impl.MapForm != 3 || impl.MapMany != 4 {
		t.Error(impl.MaxEntries, impl.MapGood, impl.MapMarks, impl.MapRoot, impl.MapForm, impl.MapMany)
	}
}

func TestPriorityTexts(t *testing.T) {
	for _, x := range priorityTexts {
		if n, ok := impl.ParsePriority(x.s); !ok || n != x.n {
			t.Errorf("%s: ParsePriority(%q) = %d, %v; want %d", x.why, x.s, n, ok, x.n)
		}
		checkPriority(t, x.s)
		s := "<urlset><url><loc>a</loc><priority>\n" + x.s + " </priority></url></urlset>"
		if m, fault := impl.ParseSitemap(s); fault != impl.MapGood || !sameSitemap(m, listOf(at("a", x.n))) {
			t.Errorf("%s: ParseSitemap(%q) = %v, %d", x.why, s, m, fault)
		}
	}
}

func TestNoPriorityTexts(t *testing.T) {
	for _, x := range noPriorityTexts {
		if n, ok := impl.ParsePriority(x.s); ok || n != 0 {
			t.Errorf("%s: ParsePriority(%q) = %d, %v", x.why, x.s, n, ok)
		}
		checkPriority(t, x.s)
		checkSitemap(t, "<urlset><url><loc>a</loc><priority>"+impl.Escape(x.s)+"</priority></url></urlset>")
	}
}

func TestPrioritiesOfEveryByte(t *testing.T) {
	for c := range 256 {
		for _, whole := range []string{"", "0", "1", "0.5", "1.000", "0.125"} {
			for place := range len(whole) + 1 {
				checkPriority(t, whole[:place]+oneByte(c)+whole[place:])
				if place < len(whole) {
					checkPriority(t, whole[:place]+oneByte(c)+whole[place+1:])
				}
			}
		}
	}
}

func TestPrioritiesOfEveryShortText(t *testing.T) {
	eachText("019.", 6, func(s string) { checkPriority(t, s) })
	eachText("0123456789", 4, func(s string) {
		for _, ahead := range []string{"0.", "1.", "2.", ""} {
			checkPriority(t, ahead+s)
		}
	})
	eachText("01.-+ e", 4, func(s string) { checkPriority(t, s) })
}

func TestPriorityTextOfEveryNumber(t *testing.T) {
	for _, x := range []struct {
		n    int
		text string
	}{{0, "0.000"}, {7, "0.007"}, {10, "0.010"}, {123, "0.123"}, {500, "0.500"}, {999, "0.999"}, {1000, "1.000"}, {-1, ""}, {1001, ""}} {
		if text := impl.PriorityText(x.n); text != x.text {
			t.Errorf("PriorityText(%d) = %q; want %q", x.n, text, x.text)
		}
	}
	for n := -2000; n <= 4000; n++ {
		text := impl.PriorityText(n)
		if want := wantPriorityText(n); text != want {
			t.Errorf("PriorityText(%d) = %q; want %q", n, text, want)
		}
		if back, ok := impl.ParsePriority(text); n >= 0 && n <= 1000 && (!ok || back != n) {
			t.Errorf("ParsePriority(%q) = %d, %v; want %d", text, back, ok, n)
		}
	}
	for _, n := range []int{math.MinInt, math.MinInt + 500, math.MaxInt, math.MaxInt - 500, 1 << 32, 1<<32 + 500, -1 << 32, 1<<16 + 1, 1 << 40} {
		if text := impl.PriorityText(n); text != "" {
			t.Errorf("PriorityText(%d) = %q", n, text)
		}
	}
}

func TestSitemapTexts(t *testing.T) {
	for _, x := range sitemapTexts {
		if m, fault := impl.ParseSitemap(x.s); fault != impl.MapGood || !sameSitemap(m, x.m) {
			t.Errorf("%s: ParseSitemap(%q) = %v, %d; want %v", x.why, x.s, m, fault, x.m)
		}
		checkSitemap(t, x.s)
	}
}

func TestNoSitemapTexts(t *testing.T) {
	for _, x := range noSitemapTexts {
		checkNoSitemap(t, x.why, x.s, x.fault)
		checkNoSitemap(t, x.why+", blanks and remarks around", " \n<!--x-->"+x.s+"<?x?>\t", x.fault)
	}
}

// A text that is right is right no more with something ahead of it or behind
// it, but for blanks and what is passed over.
func TestSitemapsWithMoreAround(t *testing.T) {
	for _, x := range sitemapTexts {
		for _, y := range []struct {
			more  string
			fault int
		}{
			{"", impl.MapGood}, {" ", impl.MapGood}, {"\t\r\n", impl.MapGood}, {"&#32;", impl.MapGood}, {"<![CDATA[ ]]>", impl.MapGood}, {"<!--a-->", impl.MapGood}, {"<?a?>", impl.MapGood}, {"<![CDATA[]]>", impl.MapGood}, {" <!--a--> <?b?> ", impl.MapGood},
			{"x", impl.MapRoot}, {" x ", impl.MapRoot}, {"\u00a0", impl.MapRoot}, {"\x00", impl.MapRoot}, {"<![CDATA[x]]>", impl.MapRoot}, {"&lt;", impl.MapRoot}, {"<x/>", impl.MapRoot}, {"<urlset/>", impl.MapRoot}, {"<sitemapindex></sitemapindex>", impl.MapRoot}, {x.s, impl.MapRoot},
			{"<x>", impl.MapMarks}, {"</x>", impl.MapMarks}, {"&x;", impl.MapMarks},
		} {
			for _, s := range []string{y.more + x.s, x.s + y.more} {
				m, fault := impl.ParseSitemap(s)
				if fault != y.fault || fault == impl.MapGood && !sameSitemap(m, x.m) || fault != impl.MapGood && !sameSitemap(m, impl.Sitemap{}) {
					t.Fatalf("%s: ParseSitemap(%q) = %v, %d; want %d", x.why, s, m, fault, y.fault)
				}
				checkSitemap(t, s)
			}
		}
	}
}

// One text by its pieces; what is put between two of them stands alone there.
var piecesOfAList = []string{"<urlset a='b'>", "<url>", "<loc>", "a", "</loc>", "<priority>", "0.25", "</priority>", "</url>", "<url>", "<x>", "<loc>", "b", "</loc>", "</x>", "<loc>", "c", "</loc>", "</url>", "</urlset>"}

func TestBlanksBetweenAllPieces(t *testing.T) {
	want := listOf(at("a", 250), at("c", 500))
	for _, blank := range []string{" ", "\t", "\n", "\r", " \t\n\r", "&#32;", "&#x9;&#10; ", "<![CDATA[\r\n]]>", "<!-- x -->", "<?x?>", "<![CDATA[]]>", " <!--x-->\n<?y?>\t<![CDATA[ ]]>&#13;"} {
		for place := range len(piecesOfAList) + 1 {
			s := strings.Join(slices.Insert(slices.Clone(piecesOfAList), place, blank), "")
			if m, fault := impl.ParseSitemap(s); fault != impl.MapGood || !sameSitemap(m, want) {
				t.Errorf("ParseSitemap(%q) = %v, %d; want %v", s, m, fault, want)
			}
			checkSitemap(t, s)
		}
		s := blank + strings.Join(piecesOfAList, blank) + blank
		if m, fault := impl.ParseSitemap(s); fault != impl.MapGood || !sameSitemap(m, want) {
			t.Errorf("ParseSitemap(%q) = %v, %d; want %v", s, m, fault, want)
		}
		checkSitemap(t, s)
	}
}

func TestOthersBetweenAllPieces(t *testing.T) {
	for _, more := range []string{"x", " x ", "\v", "\xff", "&amp;", "<![CDATA[x]]>", "<x/>", "<x>y</x>", "<loc>d</loc>", "<loc/>", "<priority>1</priority>", "<priority/>", "<url/>", "<url><loc>d</loc></url>", "<sitemap><loc>d</loc></sitemap>", "<urlset/>", "<sitemapindex/>", "0", "1", "<", "</x>", "<x>", "</loc>", "</url>", "<url>", "<loc>", "&"} {
		for place := range len(piecesOfAList) + 1 {
			checkSitemap(t, strings.Join(slices.Insert(slices.Clone(piecesOfAList), place, more), ""))
			if place < len(piecesOfAList) {
				other := slices.Clone(piecesOfAList)
				other[place] = more
				checkSitemap(t, strings.Join(other, ""))
			}
		}
	}
	for place := range piecesOfAList {
		checkSitemap(t, strings.Join(slices.Delete(slices.Clone(piecesOfAList), place, place+1), ""))
		for other := range piecesOfAList {
			l := slices.Clone(piecesOfAList)
			l[place], l[other] = l[other], l[place]
			checkSitemap(t, strings.Join(l, ""))
		}
	}
}

func TestSitemapsOfBeginningsAndOfEveryByte(t *testing.T) {
	whole := strings.Join(piecesOfAList, "")
	for end := range len(whole) {
		checkNoSitemap(t, "a beginning", whole[:end], map[bool]int{true: impl.MapRoot, false: impl.MapMarks}[end == 0])
	}
	for c := range 256 {
		for place := range len(whole) + 1 {
			checkSitemap(t, whole[:place]+oneByte(c)+whole[place:])
		}
	}
}

// Every entry of a few parts: how many of each there are tells what it is.
func TestEveryShortEntry(t *testing.T) {
	parts := []string{"<loc>a</loc>", "<loc> </loc>", "<loc>a<b/></loc>", "<priority>0.25</priority>", "<priority>9</priority>", "x", " ", "<x>y<loc>z</loc></x>"}
	eachText("01234567", 4, func(row string) {
		s := ""
		for _, c := range []byte(row) {
			s += parts[c-'0']
		}
		many := func(c string) int { return strings.Count(row, c) }
		right := many("0") == 1 && many("1")+many("2")+many("4")+many("5") == 0 && many("3") <= 1
		for _, index := range []bool{false, true} {
			whole := "<urlset><url>" + s + "</url></urlset>"
			if index {
				whole = "<sitemapindex><sitemap>" + s + "</sitemap></sitemapindex>"
			}
			m, fault := impl.ParseSitemap(whole)
			want := impl.Sitemap{Index: index, Entries: entries{at("a", 500-250*many("3"))}}
			if right && (fault != impl.MapGood || !sameSitemap(m, want)) || !right && (fault != impl.MapForm || !sameSitemap(m, impl.Sitemap{})) {
				t.Fatalf("ParseSitemap(%q) = %v, %d", whole, m, fault)
			}
		}
		checkSitemap(t, "<urlset><url>"+s+"</url></urlset>")
	})
}

// Texts that are a fault of one kind each, where they are put; the first one is
// none.
var (
	formFaults = []string{"", "x", "<x/>", "<url/>", "<sitemap><loc>a</loc></sitemap>", "<url><loc>a</loc>x</url>", "<url><loc>a</loc><loc>a</loc></url>", "<url><loc>a</loc><priority/></url>", "<url><loc><b/></loc></url>"}
	rootFaults = []string{"", "x", "<x/>", "<urlset/>", "<![CDATA[x]]>"}
	markFaults = []string{"", "<", "&", "<x>", "</x>", "<a/b>"}
)

const plainEntry = "<url><loc>a</loc></url>"

// checkFirstFault puts the faults behind, ahead of and between the entries.
func checkFirstFault(t *testing.T, mark, root, form string, many int) {
	t.Helper()
	want := impl.MapGood
	switch {
	case mark != "":
		want = impl.MapMarks
	case root != "":
		want = impl.MapRoot
	case form != "":
		want = impl.MapForm
	case many > mostEntries:
		want = impl.MapMany
	}
	some, others := strings.Repeat(plainEntry, many/2), strings.Repeat(plainEntry, many-many/2)
	for _, s := range []string{
		"<urlset>" + some + others + form + "</urlset>" + root + mark,
		root + "<urlset>" + form + some + others + "</urlset>" + mark,
		root + "<urlset>" + some + form + others + mark + "</urlset>",
	} {
		m, fault := impl.ParseSitemap(s)
		if fault != want || fault == impl.MapGood && len(m.Entries) != many || fault != impl.MapGood && !sameSitemap(m, impl.Sitemap{}) {
			t.Fatalf("%d entries, %q, %q, %q: ParseSitemap gives %d entries, %d; want %d", many, form, root, mark, len(m.Entries), fault, want)
		}
	}
}

// Several faults at once: the one that the chapter names first counts, wherever
// they stand.
func TestWhichMapFaultComesFirst(t *testing.T) {
	for _, mark := range markFaults {
		for _, root := range rootFaults {
			for _, form := range formFaults {
				for _, many := range []int{0, 1, mostEntries, mostEntries + 1, mostEntries + 50} {
					checkFirstFault(t, mark, root, form, many)
				}
			}
		}
	}
	tooMany := strings.Repeat(plainEntry, mostEntries+1)
	checkNoSitemap(t, "a first one of another name, and a fault in it", "<x>y<url/></x>", impl.MapRoot)
	checkNoSitemap(t, "a first one of another name, and too many in it", "<x>"+tooMany+"</x>", impl.MapRoot)
	checkNoSitemap(t, "a fault in an entry behind too many", "<urlset>"+tooMany+"<url/></urlset>", impl.MapForm)
	checkNoSitemap(t, "a fault in the one too many", "<urlset>"+tooMany[len(plainEntry):]+"<url/></urlset>", impl.MapForm)
}

func manyEntries(many int) entries {
	l := entries{}
	for n := range many {
		l = append(l, at("http://a.com/"+strconv.Itoa(n), n%1001))
	}
	return l
}

func TestSitemapsOfAboutMaxEntries(t *testing.T) {
	for _, many := range []int{0, 1, 2, 100, 198, 199, 200, 201, 202, 300, 374} {
		for _, index := range []bool{false, true} {
			m := impl.Sitemap{Index: index, Entries: manyEntries(many)}
			back, fault := impl.ParseSitemap(impl.SitemapText(m))
			if many <= mostEntries && (fault != impl.MapGood || !sameSitemap(back, m)) || many > mostEntries && (fault != impl.MapMany || !sameSitemap(back, impl.Sitemap{})) {
				t.Errorf("%d entries: %d, and %d entries back", many, fault, len(back.Entries))
			}
			checkList(t, m)
			blank := strings.ReplaceAll(impl.SitemapText(m), "</loc>", "</loc>\n")
			if back, fault := impl.ParseSitemap(blank); many <= mostEntries && (fault != impl.MapGood || !sameSitemap(back, m)) {
				t.Errorf("%d entries, blanks in each: %d", many, fault)
			}
		}
	}
}

// More tokens than chapter 13 reads are no list, however many entries they
// are of; blanks are tokens, too.
func TestSitemapsOfAboutMaxTokens(t *testing.T) {
	for _, x := range []struct {
		why, s string
		fault  int
	}{
		{"entries of 8 tokens, 3002 in all", impl.SitemapText(listOf(manyEntries(375)...)), impl.MapMarks},
		{"entries of 8 tokens, 2994 in all", impl.SitemapText(listOf(manyEntries(374)...)), impl.MapMany},
		{"blanks, 3000 in all", "<urlset>" + strings.Repeat("<!----> ", mostTokens-2) + "</urlset>", impl.MapGood},
		{"blanks, 3001 in all", "<urlset>" + strings.Repeat("<!----> ", mostTokens-1) + "</urlset>", impl.MapMarks},
		{"blanks behind the end, 3001 in all", "<urlset></urlset>" + strings.Repeat("<!----> ", mostTokens-1), impl.MapMarks},
		{"a Loc of many parts, 3000 in all", "<urlset><url><loc>" + strings.Repeat("a<!---->", mostTokens-6) + "</loc></url></urlset>", impl.MapGood},
		{"a Loc of many parts, 3001 in all", "<urlset><url><loc>" + strings.Repeat("a<!---->", mostTokens-5) + "</loc></url></urlset>", impl.MapMarks},
		{"others that are deep, 3000 in all", "<urlset><url><loc>a</loc>" + strings.Repeat("<x>", 1496) + strings.Repeat("</x>", 1496) + " </url></urlset>", impl.MapGood},
		{"others that are deep, 3001 in all", "<urlset><url> <loc>a</loc>" + strings.Repeat("<x>", 1496) + strings.Repeat("</x>", 1496) + " </url></urlset>", impl.MapMarks},
	} {
		if _, fault := impl.ParseSitemap(x.s); fault != x.fault {
			t.Errorf("%s: %d; want %d", x.why, fault, x.fault)
		}
		checkSitemap(t, x.s)
	}
}

func TestSitemapTextOfEscapes(t *testing.T) {
	for _, x := range []struct {
		why  string
		m    impl.Sitemap
		text string
	}{
		{"nothing", impl.Sitemap{}, "<urlset></urlset>"},
		{"nothing, of lists", indexOf(), "<sitemapindex></sitemapindex>"},
		{"one", listOf(at("a", 500)), "<urlset><url><loc>a</loc><priority>0.500</priority></url></urlset>"},
		{"one, of lists", indexOf(at("a", 1000)), "<sitemapindex><sitemap><loc>a</loc><priority>1.000</priority></sitemap></sitemapindex>"},
		{"two", listOf(at("a", 0), at("b", 7)), "<urlset><url><loc>a</loc><priority>0.000</priority></url><url><loc>b</loc><priority>0.007</priority></url></urlset>"},
		{"an and", listOf(at("a&b", 500)), "<urlset><url><loc>a&amp;b</loc><priority>0.500</priority></url></urlset>"},
		{"a mark's beginning", listOf(at("a<b", 500)), "<urlset><url><loc>a&lt;b</loc><priority>0.500</priority></url></urlset>"},
		{"a mark's end", listOf(at("a>b", 500)), "<urlset><url><loc>a&gt;b</loc><priority>0.500</priority></url></urlset>"},
		{"two strokes", listOf(at(`a"b`, 500)), "<urlset><url><loc>a&quot;b</loc><priority>0.500</priority></url></urlset>"},
		{"one stroke", listOf(at("a'b", 500)), "<urlset><url><loc>a&apos;b</loc><priority>0.500</priority></url></urlset>"},
		{"all of them, of lists", indexOf(at(fiveMarks, 1)), "<sitemapindex><sitemap><loc>" + fiveEscapes + "</loc><priority>0.001</priority></sitemap></sitemapindex>"},
		{"the end of its own", listOf(at("</loc></url></urlset>", 500)), "<urlset><url><loc>&lt;/loc&gt;&lt;/url&gt;&lt;/urlset&gt;</loc><priority>0.500</priority></url></urlset>"},
		{"raw text", listOf(at("<![CDATA[a]]>", 500)), "<urlset><url><loc>&lt;![CDATA[a]]&gt;</loc><priority>0.500</priority></url></urlset>"},
		{"an escape", listOf(at("&amp;", 500)), "<urlset><url><loc>&amp;amp;</loc><priority>0.500</priority></url></urlset>"},
		{"a line's end within", listOf(at("a\n b", 500)), "<urlset><url><loc>a\n b</loc><priority>0.500</priority></url></urlset>"},
	} {
		if text := impl.SitemapText(x.m); text != x.text {
			t.Errorf("%s: SitemapText(%v) = %q; want %q", x.why, x.m, text, x.text)
		}
		if back, fault := impl.ParseSitemap(x.text); fault != impl.MapGood || !sameSitemap(back, x.m) {
			t.Errorf("%s: ParseSitemap(%q) = %v, %d; want %v", x.why, x.text, back, fault, x.m)
		}
		checkList(t, x.m)
	}
}

// Lists that no text gives: they are written as they stand, and what is
// written of them is another list, or none.
func TestWrongSitemaps(t *testing.T) {
	const ahead, behind = "<urlset><url><loc>", "</priority></url></urlset>"
	for _, x := range []struct {
		why   string
		m     impl.Sitemap
		text  string
		fault int
		back  impl.Sitemap
	}{
		{"an empty Loc", listOf(at("", 500)), ahead + "</loc><priority>0.500" + behind, impl.MapForm, impl.Sitemap{}},
		{"the zero entry", listOf(impl.Entry{}), ahead + "</loc><priority>0.000" + behind, impl.MapForm, impl.Sitemap{}},
		{"a Loc of blanks", listOf(at(" \n", 500)), ahead + " \n</loc><priority>0.500" + behind, impl.MapForm, impl.Sitemap{}},
		{"a Loc that begins with blanks", listOf(at(" a", 500)), ahead + " a</loc><priority>0.500" + behind, impl.MapGood, listOf(at("a", 500))},
		{"a Loc that ends with blanks", listOf(at("a\t\r", 500)), ahead + "a\t\r</loc><priority>0.500" + behind, impl.MapGood, listOf(at("a", 500))},
		{"a Prio below 0", listOf(at("a", -1)), ahead + "a</loc><priority>" + behind, impl.MapForm, impl.Sitemap{}},
		{"a Prio above 1000", listOf(at("a", 1001)), ahead + "a</loc><priority>" + behind, impl.MapForm, impl.Sitemap{}},
		{"the least Prio", listOf(at("a", math.MinInt)), ahead + "a</loc><priority>" + behind, impl.MapForm, impl.Sitemap{}},
		{"the greatest Prio", listOf(at("a", math.MaxInt)), ahead + "a</loc><priority>" + behind, impl.MapForm, impl.Sitemap{}},
		{"a Prio that wraps round", listOf(at("a", 1<<32+500)), ahead + "a</loc><priority>" + behind, impl.MapForm, impl.Sitemap{}},
		{"a wrong one behind a right one", indexOf(at("a", 1), at("b", -7)), "<sitemapindex><sitemap><loc>a</loc><priority>0.001</priority></sitemap><sitemap><loc>b</loc><priority></priority></sitemap></sitemapindex>", impl.MapForm, impl.Sitemap{}},
	} {
		if text := impl.SitemapText(x.m); text != x.text {
			t.Errorf("%s: SitemapText(%v) = %q; want %q", x.why, x.m, text, x.text)
		}
		if back, fault := impl.ParseSitemap(x.text); fault != x.fault || !sameSitemap(back, x.back) {
			t.Errorf("%s: ParseSitemap(%q) = %v, %d; want %v, %d", x.why, x.text, back, fault, x.back, x.fault)
		}
		checkList(t, x.m)
	}
	m := listOf(manyEntries(mostEntries + 1)...)
	if text := impl.SitemapText(m); strings.Count(text, "<url>") != mostEntries+1 || text != wantSitemapText(m) {
		t.Errorf("one entry too many: %d are written", strings.Count(text, "<url>"))
	}
}

// Every byte and every two bytes in a Loc: those that are right come back.
func TestLocsOfEveryByte(t *testing.T) {
	checkList(t, indexOf(at("x"+allBytes()+"x", 123)))
	for c := range 256 {
		l := entries{}
		for d := range 256 {
			l = append(l, at("a"+oneByte(c)+oneByte(d)+"b", d))
		}
		checkList(t, listOf(l[:128]...))
		checkList(t, indexOf(l[128:]...))
		b := oneByte(c)
		for _, loc := range []string{b, b + b, "a" + b, b + "a", "a" + b + "a", "&" + b + ";", "<" + b} {
			checkList(t, listOf(at(loc, c)))
			checkList(t, indexOf(at("a", 1), at(loc, 2), at("b", 3)))
		}
	}
}

func TestLocsOfEveryShortText(t *testing.T) {
	eachText(fiveMarks+" ;a", 4, func(loc string) { checkList(t, listOf(at(loc, len(loc)))) })
}

func writtenPart(turn *rand.Rand, part string) string {
	switch {
	case turn.Intn(3) == 0 && !strings.Contains(part, "]]>"):
		return "<![CDATA[" + part + "]]>"
	case len(part) == 1 && part[0] > 0 && part[0] < 128:
		return fmt.Sprintf([]string{"&#%d;", "&#x%X;", "&#x%06x;"}[turn.Intn(3)], part[0])
	}
	return wantEscape(part)
}

// written is one of the ways to write a text that begins and ends with no
// blank: in parts, none of which does, and with blanks and remarks around it.
func written(turn *rand.Rand, text string) string {
	s := []string{"", " ", "\n\t", "<!-- -->", " <?x?> "}[turn.Intn(5)]
	begin := 0
	for end := 1; end < len(text); end++ {
		if turn.Intn(4) == 0 && !strings.ContainsAny(text[end-1:end], " \t\n\r") && !strings.ContainsAny(text[end:end+1], " \t\n\r") {
			s += writtenPart(turn, text[begin:end]) + []string{"", "<!--<loc>-->", "<??>", "<!----> <!---->"}[turn.Intn(4)]
			begin = end
		}
	}
	return s + writtenPart(turn, text[begin:]) + []string{"", " ", "\r\n", "<!---->", "<![CDATA[ ]]>"}[turn.Intn(5)]
}

func writtenPriority(turn *rand.Rand, prio int) string {
	text := wantPriorityText(prio)
	for strings.HasSuffix(text, "0") && turn.Intn(2) == 0 && len(text) > 3 {
		text = text[:len(text)-1]
	}
	if prio%1000 == 0 && turn.Intn(3) == 0 {
		text = text[:1]
	}
	return written(turn, text)
}

// writtenEntry puts what an entry tells in either order, with others beside it.
func writtenEntry(turn *rand.Rand, name string, e impl.Entry) string {
	parts := []string{"<loc>" + written(turn, e.Loc) + "</loc>"}
	if e.Prio != 500 || turn.Intn(2) == 0 {
		parts = append(parts, "<priority a='>'>"+writtenPriority(turn, e.Prio)+"</priority >")
	}
	for range turn.Intn(3) {
		parts = append(parts, []string{"<lastmod>2026</lastmod>", "<x/>", "<x><loc>no</loc>no<y> </y></x>", "<!--<loc>no</loc>-->", "\n"}[turn.Intn(5)])
	}
	turn.Shuffle(len(parts), func(i, k int) { parts[i], parts[k] = parts[k], parts[i] })
	return "<" + name + []string{">", " >", " a='b'>"}[turn.Intn(3)] + strings.Join(parts, []string{"", " ", "\n"}[turn.Intn(3)]) + "</" + name + ">"
}

func someSitemap(turn *rand.Rand) impl.Sitemap {
	locs := []string{"a", "http://a.com/", "http://a.com/x?a&b", "a b", fiveMarks, "é日", "\xff\x00", "]]>", "<loc>", "a\n\t b", "&amp;", "x-->y"}
	m := impl.Sitemap{Index: turn.Intn(2) == 0}
	for range turn.Intn(6) {
		m.Entries = append(m.Entries, at(locs[turn.Intn(len(locs))], []int{0, 1, 10, 100, 250, 500, 999, 1000, turn.Intn(1001)}[turn.Intn(9)]))
	}
	return m
}

func TestSitemapsOfManyWritings(t *testing.T) {
	turn := rand.New(rand.NewSource(30))
	for range 20000 {
		m := someSitemap(turn)
		first := map[bool]string{false: "urlset", true: "sitemapindex"}[m.Index]
		s := []string{"", "<?xml version='1.0'?>\n", " <!--x-->"}[turn.Intn(3)] + "<" + first + " a=\"b>\">"
		for _, e := range m.Entries {
			s += []string{"", "\n ", "<!--<url/>-->"}[turn.Intn(3)] + writtenEntry(turn, firstNames[first], e)
		}
		s += []string{"", "\n"}[turn.Intn(2)] + "</" + first + ">" + []string{"", "\n", " <!--x--> "}[turn.Intn(3)]
		if back, fault := impl.ParseSitemap(s); fault != impl.MapGood || !sameSitemap(back, m) {
			t.Fatalf("ParseSitemap(%q) = %v, %d; want %v", s, back, fault, m)
		}
		checkSitemap(t, s)
		checkList(t, m)
	}
}

// Texts of pieces as they come: most of them are no lists.
func TestSitemapsOfManyPieces(t *testing.T) {
	turn := rand.New(rand.NewSource(31))
	within := []string{"<loc>", "</loc>", "<priority>", "</priority>", "<x>", "</x>", "<x/>", "a", "0.5", "1", " ", "\n", "<!--y-->", "<![CDATA[b]]>", "<![CDATA[ ]]>", "<loc>c</loc>", "<loc>c</loc>", "<priority>1</priority>", "&#32;", "<url>", "</url>"}
	around := []string{"<urlset>", "</urlset>", "<sitemapindex>", "</sitemapindex>", "<url>", "</url>", "<sitemap>", "</sitemap>", "<url><loc>a</loc></url>", "<sitemap><loc>a</loc></sitemap>", " ", "x", "<!--y-->", "<urlset/>"}
	some := func(of []string, most int) string {
		s := ""
		for range turn.Intn(most) {
			s += of[turn.Intn(len(of))]
		}
		return s
	}
	for range 20000 {
		checkSitemap(t, "<urlset><url>"+some(within, 7)+"</url></urlset>")
		checkSitemap(t, "<urlset>"+some(around, 5)+"</urlset>"+some(around, 2))
		checkSitemap(t, some(around, 6))
		checkSitemap(t, "<sitemapindex><sitemap><loc>"+some(within, 6)+"</loc></sitemap></sitemapindex>")
	}
}

var insideTexts = []struct{ why, base, loc, text string }{
	{"the same address", "http://a.com/d/map.xml", "http://a.com/d/map.xml", "http://a.com/d/map.xml"},
	{"beside it", "http://a.com/d/map.xml", "http://a.com/d/y", "http://a.com/d/y"},
	{"below it", "http://a.com/d/map.xml", "http://a.com/d/e/f/y", "http://a.com/d/e/f/y"},
	{"the folder itself", "http://a.com/d/map.xml", "http://a.com/d/", "http://a.com/d/"},
	{"the folder without its slash", "http://a.com/d/map.xml", "http://a.com/d", ""},
	{"above it", "http://a.com/d/map.xml", "http://a.com/", ""},
	{"above it, no path", "http://a.com/d/map.xml", "http://a.com", ""},
	{"in another folder", "http://a.com/d/map.xml", "http://a.com/e/y", ""},
	{"in a folder whose name goes on", "http://a.com/d/map.xml", "http://a.com/dd/y", ""},
	{"in a folder of a great letter", "http://a.com/d/map.xml", "http://a.com/D/y", ""},
	{"a path that has the folder further on", "http://a.com/d/map.xml", "http://a.com/e/d/y", ""},
	{"a query that has the folder", "http://a.com/d/map.xml", "http://a.com/?/d/y", ""},
	{"a query behind", "http://a.com/d/map.xml", "http://a.com/d/y?z", "http://a.com/d/y?z"},
	{"an empty query behind", "http://a.com/d/map.xml", "http://a.com/d/y?", "http://a.com/d/y?"},
	{"what is behind a #", "http://a.com/d/map.xml", "http://a.com/d/y#z", "http://a.com/d/y"},
	{"a base with a query", "http://a.com/d/map.xml?x/y", "http://a.com/d/y", "http://a.com/d/y"},
	{"a base with slashes in its query", "http://a.com/d?/e/f", "http://a.com/y", "http://a.com/y"},

	{"a base whose path is a slash", "http://a.com/", "http://a.com/y", "http://a.com/y"},
	{"a base whose path is a slash, no path", "http://a.com/", "http://a.com", "http://a.com/"},
	{"a base of one part", "http://a.com/map.xml", "http://a.com/d/y", "http://a.com/d/y"},
	{"a base that ends with a slash", "http://a.com/d/", "http://a.com/d/y", "http://a.com/d/y"},
	{"a base that ends with a slash, itself", "http://a.com/d/", "http://a.com/d/", "http://a.com/d/"},
	{"a base that ends with a slash, without it", "http://a.com/d/", "http://a.com/d", ""},
	{"a base that ends with a slash, above it", "http://a.com/d/", "http://a.com/e", ""},
	{"a base that does not end with a slash", "http://a.com/d", "http://a.com/e", "http://a.com/e"},
	{"a base that does not end with a slash, deep", "http://a.com/d/e", "http://a.com/d/f", "http://a.com/d/f"},
	{"a base that ends with two slashes", "http://a.com/d//", "http://a.com/d/y", ""},
	{"a base that ends with two slashes, below", "http://a.com/d//", "http://a.com/d//y", "http://a.com/d//y"},
	{"a base of two slashes", "http://a.com//", "http://a.com//y", "http://a.com//y"},
	{"a base of two slashes, one alone", "http://a.com//", "http://a.com/y", ""},

	{"another scheme", "http://a.com/", "https://a.com/", ""},
	{"another scheme, the other way round", "https://a.com/", "http://a.com/", ""},
	{"another scheme with the port of the first", "http://a.com/", "https://a.com:80/", ""},
	{"another host", "http://a.com/", "http://b.com/", ""},
	{"a host below", "http://a.com/", "http://www.a.com/", ""},
	{"a host above", "http://www.a.com/", "http://a.com/", ""},
	{"a host that goes on", "http://a.com/", "http://a.com.org/", ""},
	{"a host of great letters", "http://a.com/", "HTTP://A.COM/y", "http://a.com/y"},
	{"a host with a dot at its end", "http://a.com/", "http://a.com./y", "http://a.com/y"},
	{"a host in runes", "http://xn--bcher-kva.de/", "http://Bücher.de/y", "http://xn--bcher-kva.de/y"},
	{"a host of four, otherwise", "http://127.0.0.1/", "http://0x7f.1/y", "http://127.0.0.1/y"},
	{"a host of eight", "http://[::1]/", "http://[0:0::1]/y", "http://[::1]/y"},
	{"its default port", "http://a.com/d/", "http://a.com:80/d/y", "http://a.com/d/y"},
	{"its default port, the other scheme", "https://a.com/d/", "https://a.com:443/d/y", "https://a.com/d/y"},
	{"an empty port", "http://a.com/d/", "http://a.com:/d/y", "http://a.com/d/y"},
	{"a port with noughts", "http://a.com/d/", "http://a.com:0080/d/y", "http://a.com/d/y"},
	{"a base with its default port", "http://a.com:80/d/", "http://a.com/d/y", "http://a.com/d/y"},
	{"another port", "http://a.com/", "http://a.com:81/", ""},
	{"a base with another port", "http://a.com:81/", "http://a.com/", ""},
	{"both with another port", "http://a.com:81/", "http://a.com:81/y", "http://a.com:81/y"},
	{"a port that goes on", "http://a.com:8/", "http://a.com:80/", ""},
	{"the other scheme's port", "http://a.com/", "http://a.com:443/", ""},

	{"a path with dots", "http://a.com/d/", "http://a.com/e/../d/./y", "http://a.com/d/y"},
	{"a path with dots that lead out", "http://a.com/d/", "http://a.com/d/../y", ""},
	{"a path with dots that lead out and in", "http://a.com/d/", "http://a.com/d/../d/y", "http://a.com/d/y"},
	{"a path with dots at its end", "http://a.com/d/", "http://a.com/d/e/..", "http://a.com/d/"},
	{"a path with dots by percents", "http://a.com/d/", "http://a.com/d/%2e%2E/y", ""},
	{"a path with a letter by a percent", "http://a.com/d/", "http://a.com/%64/y", "http://a.com/d/y"},
	{"a path with a slash by a percent", "http://a.com/d/", "http://a.com/d%2Fy", ""},
	{"a base with a percent", "http://a.com/%C3%A9/", "http://a.com/é/y z", "http://a.com/%C3%A9/y%20z"},
	{"backslashes", "http://a.com/d/", `http:\\a.com\d\y`, "http://a.com/d/y"},
	{"blanks around", "http://a.com/d/", " http://a.com/d/y\n", "http://a.com/d/y"},
	{"a line's end within", "http://a.com/d/", "http://a.com/d\n/y", "http://a.com/d/y"},

	{"no address: nothing", "http://a.com/", "", ""},
	{"no address: a path", "http://a.com/", "/y", ""},
	{"no address: a name", "http://a.com/", "a.com/y", ""},
	{"no address: two slashes", "http://a.com/", "//a.com/y", ""},
	{"no address: another scheme", "http://a.com/", "ftp://a.com/y", ""},
	{"no address: a user", "http://a.com/", "http://u@a.com/y", ""},
	{"no address: a port", "http://a.com/", "http://a.com:0/y", ""},
	{"no address: a host", "http://a.com/", "http:///", ""},
	{"no address: too long", "http://a.com/", "http://a.com/" + strings.Repeat("a", 2000), ""},
	{"no address: what is written would be too long", "http://a.com/", "http://a.com/" + strings.Repeat(" ", 700) + "y", ""},
	{"the longest address", "http://a.com/", "http://a.com/" + strings.Repeat("a", 2000-len("http://a.com/")), "http://a.com/" + strings.Repeat("a", 2000-len("http://a.com/"))},
}

// readBase takes a base that is not written in the one way, too.
func readBase(t *testing.T, text string) impl.Url {
	t.Helper()
	u, fault := impl.ParseUrl(text)
	if fault != impl.UrlGood {
		t.Fatalf("%q is no base: %d", text, fault)
	}
	return u
}

func TestInsideTexts(t *testing.T) {
	for _, x := range insideTexts {
		base := readBase(t, x.base)
		for _, prio := range []int{0, 500, 1000, -7, 1 << 40} {
			for _, index := range []bool{false, true} {
				m := impl.Sitemap{Index: index, Entries: entries{at(x.loc, prio)}}
				l := impl.Inside(m, base)
				if x.text == "" && len(l) != 0 || x.text != "" && !slices.Equal(l, entries{at(x.text, prio)}) {
					t.Errorf("%s: Inside(%q, %q) = %v; want %q", x.why, x.loc, x.base, l, x.text)
				}
				checkInside(t, m, base)
			}
		}
	}
}

// All Locs of the tables at each base: order, and what is there twice, stay.
func TestInsideOfManyEntries(t *testing.T) {
	m := impl.Sitemap{}
	for n, x := range insideTexts {
		m.Entries = append(m.Entries, at(x.loc, n), at(x.base, -n))
	}
	for _, x := range rightUrls {
		m.Entries = append(m.Entries, at(impl.UrlText(x.u), 500))
	}
	for _, x := range otherUrlTexts {
		m.Entries = append(m.Entries, at(x.s, 1), at(x.text, 2))
	}
	for _, x := range noUrlTexts {
		m.Entries = append(m.Entries, at(x.s, 3))
	}
	m.Entries = slices.Concat(m.Entries, m.Entries)
	for _, x := range insideTexts {
		checkInside(t, m, readBase(t, x.base))
	}
	for _, x := range rightUrls {
		checkInside(t, m, x.u)
	}
}

func TestInsideAtWrongBases(t *testing.T) {
	m := impl.Sitemap{Entries: entries{at("http://a.com/", 1), at("http://a.com/a", 2), at("", 3), at("x", 4), at("https://a.com/", 5), at("/", 6), at("http://", 7)}}
	for _, x := range wrongUrls {
		if l := impl.Inside(m, x.u); len(l) != 0 {
			t.Errorf("%s: Inside at it = %v", x.why, l)
		}
		checkInside(t, m, x.u)
	}
	if l := impl.Inside(m, impl.Url{}); len(l) != 0 {
		t.Errorf("Inside at the zero one = %v", l)
	}
	if l := impl.Inside(impl.Sitemap{}, baseOf(t, "http://a.com/")); len(l) != 0 {
		t.Errorf("Inside of nothing = %v", l)
	}
	long := httpUrl(nameA, 80, "/"+strings.Repeat("a", 3000))
	if l := impl.Inside(m, long); !slices.Equal(l, entries{at("http://a.com/", 1), at("http://a.com/a", 2)}) {
		t.Errorf("Inside at a base that is too long to be read = %v", l)
	}
	checkInside(t, m, long)
}

// What is inside is inside again, and as it was.
func TestInsideStays(t *testing.T) {
	for _, x := range insideTexts {
		base := readBase(t, x.base)
		l := impl.Inside(listOf(at(x.loc, 7), at(x.base, 8)), base)
		if again := impl.Inside(listOf(l...), base); !slices.Equal(l, again) {
			t.Errorf("%s: %v is %v once more", x.why, l, again)
		}
	}
}

func TestInsideOfEveryByte(t *testing.T) {
	base := baseOf(t, "http://a.com/d/map.xml")
	whole := "http://a.com:80/d/y?z"
	for c := range 256 {
		m := impl.Sitemap{}
		for place := range len(whole) + 1 {
			m.Entries = append(m.Entries, at(whole[:place]+oneByte(c)+whole[place:], place))
			if place < len(whole) {
				m.Entries = append(m.Entries, at(whole[:place]+oneByte(c)+whole[place+1:], -place))
			}
		}
		checkInside(t, m, base)
	}
}

func TestSitemapsOfVeryMany(t *testing.T) {
	const many = 300000
	asks := func(s string, fault int, length int) func() bool {
		return func() bool {
			m, got := impl.ParseSitemap(s)
			return got == fault && len(m.Entries) == length
		}
	}
	long := strings.Repeat("x", many)
	for _, x := range []struct {
		why string
		ask func() bool
	}{
		{"a long Loc", asks("<urlset><url><loc>"+long+"</loc></url></urlset>", impl.MapGood, 1)},
		{"a long text ahead", asks(long+"<urlset/>", impl.MapRoot, 0)},
		{"very many blanks", asks(strings.Repeat(" \t\r\n", many)+"<urlset>"+plainEntry+"</urlset>", impl.MapGood, 1)},
		{"very many blanks around a Loc", asks("<urlset><url><loc>"+strings.Repeat(" ", many)+"a"+strings.Repeat("\n", many)+"</loc></url></urlset>", impl.MapGood, 1)},
		{"very many remarks", asks("<urlset>"+strings.Repeat("<!---->", many)+plainEntry+"</urlset>", impl.MapGood, 1)},
		{"very many entries", asks("<urlset>"+strings.Repeat(plainEntry, many)+"</urlset>", impl.MapMarks, 0)},
		{"very deep", asks(strings.Repeat("<urlset>", many)+strings.Repeat("</urlset>", many), impl.MapMarks, 0)},
		{"deep", asks(strings.Repeat("<urlset>", 1500)+strings.Repeat("</urlset>", 1500), impl.MapForm, 0)},
		{"a long priority", asks("<urlset><url><loc>a</loc><priority>0."+strings.Repeat("0", many)+"</priority></url></urlset>", impl.MapForm, 0)},
		{"a long priority by itself", func() bool {
			n, ok := impl.ParsePriority("0." + strings.Repeat("1", many))
			return n == 0 && !ok
		}},
		{"very many to write", func() bool {
			return strings.Count(impl.SitemapText(listOf(slices.Repeat(entries{at("a&", 1)}, many)...)), "<url>") == many
		}},
		{"very many to look into", func() bool {
			u, _ := impl.ParseUrl("http://a.com/")
			return len(impl.Inside(listOf(slices.Repeat(entries{at("http://a.com/b", 1), at("x", 2)}, many/10)...), u)) == many/10
		}},
	} {
		soon(t, x.why, x.ask, true)
	}
}

// Behind the list's length there is more, which a call must neither read nor
// write.
func TestSitemapsLeaveTheirArgument(t *testing.T) {
	room := entries{at("http://a.com/d/x", 1), at(" http://a.com:80/d/y", 2), at("http://b.com/", 3), at("<&>", -4), at("http://a.com/d/z", 5)}
	before := slices.Clone(room)
	base := baseOf(t, "http://a.com/d/")
	baseBefore := base
	for many := range len(room) + 1 {
		m := impl.Sitemap{Entries: room[:many]}
		alone := impl.Sitemap{Entries: slices.Clip(slices.Clone(room[:many]))}
		l := impl.Inside(m, base)
		if want := wantInside(alone, base); !slices.Equal(l, want) {
			t.Errorf("Inside of the first %d reads behind them: %v", many, l)
		}
		if text := impl.SitemapText(m); text != wantSitemapText(alone) {
			t.Errorf("SitemapText of the first %d reads behind them: %q", many, text)
		}
		for i := range l {
			l[i] = at("written", 9)
		}
		_ = append(l, at("written", 9), at("written", 9))
		if !slices.Equal(room, before) || base != baseBefore || m.Index || len(m.Entries) != many {
			t.Fatalf("written into the argument, or behind it: %v", room)
		}
	}
}

func TestSitemapsAreNewMemory(t *testing.T) {
	s := strings.Clone("<urlset><url><loc>one</loc></url><url><loc> two </loc></url><url><loc><![CDATA[three]]></loc></url><url><loc>fo<!---->ur</loc></url></urlset>")
	m, fault := impl.ParseSitemap(s)
	again, _ := impl.ParseSitemap(s)
	if fault != impl.MapGood || len(m.Entries) != 4 || !sameSitemap(m, again) {
		t.Fatalf("ParseSitemap(%q) = %v, %d", s, m, fault)
	}
	if overlap(m.Entries, again.Entries) {
		t.Error("two answers share memory")
	}
	text := impl.SitemapText(m)
	for _, e := range m.Entries {
		if lies(e.Loc, s) || lies(text, e.Loc) {
			t.Errorf("%q lies in its argument's memory", e.Loc)
		}
	}
	for i := range m.Entries {
		m.Entries[i] = at("written", 9)
	}
	_ = append(m.Entries, at("written", 9))
	if third, _ := impl.ParseSitemap(s); !sameSitemap(third, again) {
		t.Errorf("what is written into an answer is in the next: %v", third)
	}
}

func TestInsideIsNewMemory(t *testing.T) {
	base := baseOf(t, "http://a.com/d/")
	m := listOf(at(strings.Clone("http://a.com/d/x"), 1), at(strings.Clone("http://a.com/d/y?z"), 2))
	l, again := impl.Inside(m, base), impl.Inside(m, base)
	if !slices.Equal(l, m.Entries) || !slices.Equal(l, again) {
		t.Fatalf("Inside(%v) = %v, %v", m, l, again)
	}
	if overlap(l, again) || overlap(l, m.Entries) {
		t.Error("an answer shares memory with another one, or with its argument")
	}
	for i, e := range l {
		if lies(e.Loc, m.Entries[i].Loc) || lies(e.Loc, base.Path) {
			t.Errorf("%q lies in its argument's memory", e.Loc)
		}
	}
}

// What was asked ahead, and given up, changes no answer.
func TestSitemapsKeepNothing(t *testing.T) {
	for _, ahead := range noSitemapTexts {
		for _, x := range sitemapTexts[:20] {
			impl.ParseSitemap(ahead.s)
			impl.ParsePriority(ahead.s)
			if m, fault := impl.ParseSitemap(x.s); fault != impl.MapGood || !sameSitemap(m, x.m) {
				t.Fatalf("%s, behind %s: ParseSitemap(%q) = %v, %d", x.why, ahead.why, x.s, m, fault)
			}
		}
		if m, fault := impl.ParseSitemap(ahead.s); fault != ahead.fault || !sameSitemap(m, impl.Sitemap{}) {
			t.Fatalf("%s, asked again: %v, %d", ahead.why, m, fault)
		}
	}
}
