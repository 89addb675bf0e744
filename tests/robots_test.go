package tests

import (
	"math/rand"
	"reflect"
	"regexp"
	"slices"
	"strings"
	"testing"

	"loop.example/g00191/impl"
)

func allow(pattern string) impl.Line { return impl.Line{Allow: true, Pattern: pattern} }

func disallow(pattern string) impl.Line { return impl.Line{Pattern: pattern} }

func agents(names ...string) []string { return names }

func partFor(names []string, lines ...impl.Line) impl.Part {
	return impl.Part{Agents: names, Lines: lines}
}

func robots(parts ...impl.Part) impl.Robots { return impl.Robots{Parts: parts} }

// Texts that are written as RobotsText writes them, and what is read of them.
var ownRobots = []struct {
	why, s string
	r      impl.Robots
}{
	{"nothing", "", robots()},
	{"a part of no lines", "user-agent: a\n", robots(partFor(agents("a")))},
	{"one part, one line", "user-agent: a\ndisallow: /\n", robots(partFor(agents("a"), disallow("/")))},
	{"one part, a line that allows", "user-agent: a\nallow: /\n", robots(partFor(agents("a"), allow("/")))},
	{"one part, both", "user-agent: a\nallow: /x\ndisallow: /\n", robots(partFor(agents("a"), allow("/x"), disallow("/")))},
	{"one part, both, the other first", "user-agent: a\ndisallow: /\nallow: /x\n", robots(partFor(agents("a"), disallow("/"), allow("/x")))},
	{"one line twice", "user-agent: a\nallow: /\nallow: /\n", robots(partFor(agents("a"), allow("/"), allow("/")))},
	{"a pattern that is allowed and not", "user-agent: a\nallow: /\ndisallow: /\n", robots(partFor(agents("a"), allow("/"), disallow("/")))},
	{"for any one", "user-agent: *\ndisallow: /\n", robots(partFor(agents("*"), disallow("/")))},
	{"two parts", "user-agent: a\nallow: /x\nuser-agent: b\ndisallow: /y\n", robots(partFor(agents("a"), allow("/x")), partFor(agents("b"), disallow("/y")))},
	{"two parts, the last of no lines", "user-agent: a\nallow: /x\nuser-agent: b\n", robots(partFor(agents("a"), allow("/x")), partFor(agents("b")))},
	{"three parts", "user-agent: a\nallow: /x\nuser-agent: b\nallow: /y\nuser-agent: *\ndisallow: /\n", robots(partFor(agents("a"), allow("/x")), partFor(agents("b"), allow("/y")), partFor(agents("*"), disallow("/")))},
	{"two parts for one", "user-agent: a\nallow: /x\nuser-agent: a\nallow: /y\n", robots(partFor(agents("a"), allow("/x")), partFor(agents("a"), allow("/y")))},
	{"two parts that are alike", "user-agent: a\nallow: /\nuser-agent: a\nallow: /\n", robots(partFor(agents("a"), allow("/")), partFor(agents("a"), allow("/")))},
	{"two names", "user-agent: a\nuser-agent: b\nallow: /\n", robots(partFor(agents("a", "b"), allow("/")))},
	{"two names, the other first", "user-agent: b\nuser-agent: a\nallow: /\n", robots(partFor(agents("b", "a"), allow("/")))},
	{"three names, any one among them", "user-agent: a\nuser-agent: *\nuser-agent: c\nallow: /\n", robots(partFor(agents("a", "*", "c"), allow("/")))},
	{"one name twice", "user-agent: a\nuser-agent: a\nallow: /\n", robots(partFor(agents("a", "a"), allow("/")))},
	{"names and no lines", "user-agent: a\nuser-agent: b\n", robots(partFor(agents("a", "b")))},
	{"names again behind lines", "user-agent: a\nuser-agent: b\nallow: /\nuser-agent: c\nuser-agent: d\nallow: /x\n", robots(partFor(agents("a", "b"), allow("/")), partFor(agents("c", "d"), allow("/x")))},
	{"a name of no bytes", "user-agent: \nallow: /\n", robots(partFor(agents(""), allow("/")))},
	{"a name of no bytes beside one", "user-agent: a\nuser-agent: \nuser-agent: b\n", robots(partFor(agents("a", "", "b")))},
	{"names of marks", "user-agent: _\nuser-agent: -\nuser-agent: a_-b\n", robots(partFor(agents("_", "-", "a_-b")))},
	{"a name as a key", "user-agent: user-agent\nallow: allow\ndisallow: disallow\n", robots(partFor(agents("user-agent"), allow("allow"), disallow("disallow")))},
	{"patterns with signs", "user-agent: a\ndisallow: /*.html$\nallow: *\nallow: $\n", robots(partFor(agents("a"), disallow("/*.html$"), allow("*"), allow("$")))},
	{"patterns with a colon", "user-agent: a\nallow: :\ndisallow: /a:b:\nallow: allow:\n", robots(partFor(agents("a"), allow(":"), disallow("/a:b:"), allow("allow:")))},
	{"patterns with percents", "user-agent: a\nallow: /%2F%23%20%2A%24%25\n", robots(partFor(agents("a"), allow("/%2F%23%20%2A%24%25")))},
	{"a pattern with a query", "user-agent: a\ndisallow: /?a=b&c=d\n", robots(partFor(agents("a"), disallow("/?a=b&c=d")))},
	{"a pattern without a slash", "user-agent: a\ndisallow: x\n", robots(partFor(agents("a"), disallow("x")))},
}

// Texts that are written otherwise, and the text of what is read of them.
var otherRobots = []struct{ why, s, text string }{
	{"a line that ends at 10 alone", "\n", ""},
	{"a line that ends at 13 alone", "\r", ""},
	{"lines that end at 13", "user-agent: a\rallow: /\r", "user-agent: a\nallow: /\n"},
	{"lines that end at both", "user-agent: a\r\nallow: /\r\n", "user-agent: a\nallow: /\n"},
	{"lines that end at both, turned", "user-agent: a\n\rallow: /\n\r", "user-agent: a\nallow: /\n"},
	{"lines that end at one or the other", "user-agent: a\rallow: /\ndisallow: /x\r\nallow: /y", "user-agent: a\nallow: /\ndisallow: /x\nallow: /y\n"},
	{"a value that ends at 13", "user-agent: a\nallow: /x\ry\n", "user-agent: a\nallow: /x\n"},
	{"a key that is cut at 13", "user-agent: a\nal\rlow: /\n", "user-agent: a\n"},
	{"a line that ends at none", "user-agent: a\nallow: /", "user-agent: a\nallow: /\n"},
	{"empty lines", "\n\nuser-agent: a\n\n\nallow: /\n\n", "user-agent: a\nallow: /\n"},
	{"an empty line begins no part", "user-agent: a\nallow: /\n\nallow: /x\n", "user-agent: a\nallow: /\nallow: /x\n"},
	{"an empty line between names", "user-agent: a\n\nuser-agent: b\nallow: /\n", "user-agent: a\nuser-agent: b\nallow: /\n"},
	{"lines of blanks", " \t \nuser-agent: a\n \t\nallow: /\n", "user-agent: a\nallow: /\n"},
	{"a byte 11 ends no line", "user-agent: a\vallow: /\n", "user-agent: a\n"},
	{"a byte 12 in a value", "user-agent: a\nallow: /\fallow: /x\n", "user-agent: a\nallow: /%0Callow:%20/x\n"},

	{"no colon", "user-agent a\n", ""},
	{"no colon among lines", "user-agent: a\nallow /\ndisallow: /x\nallow\n", "user-agent: a\ndisallow: /x\n"},
	{"a key alone", "user-agent\nallow: /\n", ""},
	{"a key alone begins no part", "user-agent: a\nallow: /\nuser-agent\nallow: /x\n", "user-agent: a\nallow: /\nallow: /x\n"},
	{"a colon alone", ":\n:user-agent: a\nuser-agent: a\n", "user-agent: a\n"},
	{"two colons", "user-agent:: a\nallow: /\n", "user-agent: \nallow: /\n"},
	{"two colons of a pattern", "user-agent: a\nallow:: /\n", "user-agent: a\nallow: :%20/\n"},
	{"an equals sign", "user-agent=a\nallow=/\n", ""},

	{"a remark alone", "# user-agent: a\n", ""},
	{"a remark first", "# x\nuser-agent: a\nallow: /\n", "user-agent: a\nallow: /\n"},
	{"a mark alone", "#\nuser-agent: a\n#\nallow: /\n#", "user-agent: a\nallow: /\n"},
	{"a remark behind blanks", "  # x: y\nuser-agent: a\n\t#allow: /\n", "user-agent: a\n"},
	{"a remark ahead of the colon", "user-agent#: a\nuser-agent #: a\nuser#-agent: a\n", ""},
	{"a remark ahead of the colon, of a line", "user-agent: a\nallow#: /\ndisallow: /x\n", "user-agent: a\ndisallow: /x\n"},
	{"a remark right behind the colon", "user-agent: a\nallow:# /\nallow: # /\n", "user-agent: a\n"},
	{"a remark behind the value", "user-agent: a # x\nallow: / # y\n", "user-agent: a\nallow: /\n"},
	{"a remark right behind the value", "user-agent: a#x\nallow: /x#y\n", "user-agent: a\nallow: /x\n"},
	{"two marks", "user-agent: a # x # y\nallow: /# x # y\n", "user-agent: a\nallow: /\n"},
	{"a remark right behind a name's colon", "user-agent:#a\nallow: /\n", "user-agent: \nallow: /\n"},
	{"a remark ends with its line", "# x\ruser-agent: a # y\rallow: /\n", "user-agent: a\nallow: /\n"},
	{"a percent that tells the mark", "user-agent: a\nallow: /%23x\n", "user-agent: a\nallow: /%23x\n"},

	{"great letters", "USER-AGENT: A\nALLOW: /A\nDISALLOW: /B\n", "user-agent: a\nallow: /A\ndisallow: /B\n"},
	{"mixed letters", "User-Agent: Bot\nAllow: /a\nDisAllow: /b\n", "user-agent: bot\nallow: /a\ndisallow: /b\n"},
	{"no blanks", "user-agent:a\nallow:/\ndisallow:/x\n", "user-agent: a\nallow: /\ndisallow: /x\n"},
	{"blanks ahead of the key", "  user-agent: a\n\tallow: /\n \t disallow: /x\n", "user-agent: a\nallow: /\ndisallow: /x\n"},
	{"blanks behind the key", "user-agent : a\nallow\t: /\ndisallow \t : /x\n", "user-agent: a\nallow: /\ndisallow: /x\n"},
	{"blanks around the value", "user-agent: \t a \t\nallow:   /  \ndisallow:\t/x\t\n", "user-agent: a\nallow: /\ndisallow: /x\n"},
	{"a blank within the key", "user agent: a\nuser-agent: b\nal low: /\ndis allow: /\n", "user-agent: b\n"},
	{"a blank within the value", "user-agent: a b\nallow: /a b\tc\n", "user-agent: a\nallow: /a%20b%09c\n"},
	{"a byte 11 beside a key", "user-agent\v: a\nuser-agent: b\nallow\f: /\n", "user-agent: b\n"},
	{"a byte 11 beside a value", "user-agent: \va\nallow: /\v\n", "user-agent: \nallow: /%0B\n"},
	{"a rune of three bytes ahead", "\ufeffuser-agent: a\nallow: /\n", ""},
	{"a blank that is no byte 32", "\u00a0user-agent: a\nuser-agent: b\nallow: /\u00a0\n", "user-agent: b\nallow: /%C2%A0\n"},
	{"a sign that is small as a letter", "user-agent: a\nallow: /\nuser-agent: \u212a\n", "user-agent: a\nallow: /\nuser-agent: \n"},

	{"another key", "sitemap: x\n", ""},
	{"another key among lines", "user-agent: a\nsitemap: x\nallow: /\ncrawl-delay: 7\ndisallow: /x\n", "user-agent: a\nallow: /\ndisallow: /x\n"},
	{"another key between names", "user-agent: a\nsitemap: x\nuser-agent: b\nallow: /\n", "user-agent: a\nuser-agent: b\nallow: /\n"},
	{"another key behind lines begins no part", "user-agent: a\nallow: /\nsitemap: x\nallow: /x\n", "user-agent: a\nallow: /\nallow: /x\n"},
	{"another key ahead of a name begins no part", "user-agent: a\ncrawl-delay: 7\nuser-agent: b\n", "user-agent: a\nuser-agent: b\n"},
	{"a key that begins so", "user-agents: a\nuser-agent: b\nallowed: /\ndisallows: /\n", "user-agent: b\n"},
	{"a key that ends so", "my-user-agent: a\nuser-agent: b\nxallow: /\nxdisallow: /\n", "user-agent: b\n"},
	{"a key that is nearly so", "useragent: a\nuser_agent: a\nuser-agent: b\ndissallow: /\ndisalow: /\nalow: /\n", "user-agent: b\n"},
	{"an empty key", ": a\nuser-agent: b\n: /\n", "user-agent: b\n"},

	{"a line ahead of the first name", "disallow: /\n", ""},
	{"both ahead of the first name", "allow: /x\ndisallow: /\nuser-agent: a\nallow: /y\n", "user-agent: a\nallow: /y\n"},
	{"an empty one ahead of the first name", "disallow:\nuser-agent: a\nallow: /y\n", "user-agent: a\nallow: /y\n"},
	{"a line ahead of names is none between them", "disallow: /\nuser-agent: a\nuser-agent: b\n", "user-agent: a\nuser-agent: b\n"},

	{"an empty value", "user-agent: a\ndisallow:\nallow:\n", "user-agent: a\n"},
	{"a value of blanks", "user-agent: a\ndisallow: \t \nallow:  \n", "user-agent: a\n"},
	{"an empty value among lines", "user-agent: a\nallow: /\ndisallow:\ndisallow: /x\n", "user-agent: a\nallow: /\ndisallow: /x\n"},
	{"an empty value between names is no line", "user-agent: a\ndisallow:\nuser-agent: b\nallow: /\n", "user-agent: a\nuser-agent: b\nallow: /\n"},
	{"an empty allow between names is no line", "user-agent: a\nallow:\nuser-agent: b\nallow: /\n", "user-agent: a\nuser-agent: b\nallow: /\n"},
	{"empty values behind a line", "user-agent: a\nallow: /\ndisallow:\nuser-agent: b\n", "user-agent: a\nallow: /\nuser-agent: b\n"},
	{"an empty name", "user-agent:\nallow: /\n", "user-agent: \nallow: /\n"},
	{"a name that is no name", "user-agent: 1\nallow: /\n", "user-agent: \nallow: /\n"},
	{"an empty name begins a part", "user-agent: a\nallow: /\nuser-agent:\nallow: /x\n", "user-agent: a\nallow: /\nuser-agent: \nallow: /x\n"},

	{"a name with a version", "user-agent: Bot/1.0 (x)\nallow: /\n", "user-agent: bot\nallow: /\n"},
	{"a name with digits", "user-agent: bot2\nallow: /\n", "user-agent: bot\nallow: /\n"},
	{"any one and more", "user-agent: *bot\nallow: /\n", "user-agent: *\nallow: /\n"},
	{"any one behind a name", "user-agent: bot*\nallow: /\n", "user-agent: bot\nallow: /\n"},
	{"names that are alike when read", "user-agent: A/1\nuser-agent: a/2\n", "user-agent: a\nuser-agent: a\n"},
	{"a pattern that is written plainly", "user-agent: a\nallow: /%41%2f%2a%\n", "user-agent: a\nallow: /A%2F%2A%25\n"},
	{"a pattern of bytes", "user-agent: a\nallow: /é\xff\x00\"<>\\^`{|}[]\n", "user-agent: a\nallow: /%C3%A9%FF%00%22%3C%3E%5C%5E%60%7B%7C%7D%5B%5D\n"},
	{"a pattern that is a percent of a blank", "user-agent: a\nallow: %20\n", "user-agent: a\nallow: %20\n"},
}

// Texts that are no rules at all.
var noRobots = []struct{ why, s string }{
	{"a page", "<!DOCTYPE html>\n<html><head><title>404: not found</title></head>\n<body style=\"color: red\">user-agent</body></html>\n"},
	{"a sentence", "there are no rules here"},
	{"an address", "http://example.com/robots.txt"},
	{"all bytes", allBytes()},
	{"bytes 0", strings.Repeat("\x00", 1000)},
	{"bytes 255", strings.Repeat("\xff", 1000)},
	{"colons", strings.Repeat(":", 1000)},
	{"marks", strings.Repeat("#", 1000)},
	{"line ends", strings.Repeat("\r\n", 1000)},
	{"lines without a name", strings.Repeat("allow: /\ndisallow: /\n", 20)},
	{"a list", `{"user-agent": "*", "allow": "/"}`},
	{"rules of sites", "com\n*.kobe.jp\n!city.kobe.jp\n// user-agent: *\n"},
}

var agentTexts = []struct{ why, s, name string }{
	{"nothing", "", ""},
	{"any one", "*", "*"},
	{"any one and more", "*x", "*"},
	{"any one and a blank", "* x", "*"},
	{"any one twice", "**", "*"},
	{"any one and a version", "*/1.0", "*"},
	{"any one behind a blank", " *", ""},
	{"any one behind a letter", "x*", "x"},
	{"a letter", "a", "a"},
	{"a great letter", "Z", "z"},
	{"a name", "wayfarer", "wayfarer"},
	{"a name in great letters", "WayFarer", "wayfarer"},
	{"a name with a version", "Wayfarer/1.0", "wayfarer"},
	{"a name with a version and more", "Wayfarer/1.0 (+http://example.com/bot)", "wayfarer"},
	{"a name with a blank and more", "Way Farer", "way"},
	{"a name with digits behind", "bot2", "bot"},
	{"a name with digits within", "b2b", "b"},
	{"digits ahead", "2bot", ""},
	{"digits alone", "123", ""},
	{"a blank ahead", " bot", ""},
	{"a line's end ahead", "\nbot", ""},
	{"a line's end within", "bo\nt", "bo"},
	{"a byte 0 within", "bo\x00t", "bo"},
	{"a line below", "_", "_"},
	{"a hyphen", "-", "-"},
	{"both and letters", "Way_far-er", "way_far-er"},
	{"both at the ends", "-_a_-", "-_a_-"},
	{"a dot", "a.b", "a"},
	{"a dot ahead", ".a", ""},
	{"a tilde", "a~b", "a"},
	{"a percent", "a%62", "a"},
	{"a rune", "é", ""},
	{"a rune within", "caf\u00e9", "caf"},
	{"a sign that is small as a letter", "\u212a", ""},
	{"a byte 255", "a\xff", "a"},
	{"a slash ahead", "/a", ""},
}

var patternTexts = []struct{ why, s, pattern string }{
	{"nothing", "", ""},
	{"a path", "/a/b.html", "/a/b.html"},
	{"a query", "/a?b=c&d", "/a?b=c&d"},
	{"no slash", "a", "a"},
	{"each mark that stays", "-._~!$&'()*+,;=:@/?", "-._~!$&'()*+,;=:@/?"},
	{"signs", "/*.html$", "/*.html$"},
	{"signs anywhere", "$*/$a**", "$*/$a**"},
	{"a percent of a sign, small", "%2a", "%2A"},
	{"a percent of a sign", "%2A", "%2A"},
	{"a percent of the other sign", "%24", "%24"},
	{"percents of signs beside signs", "/*%2a$%24", "/*%2A$%24"},
	{"a percent in small digits", "%2f%ff%c3%a9", "%2F%FF%C3%A9"},
	{"a percent in great digits", "%2F%FF%C3%A9", "%2F%FF%C3%A9"},
	{"a percent in mixed digits", "%c3%C3%cC%Cc", "%C3%C3%CC%CC"},
	{"a percent that tells a letter", "%41%7a", "Az"},
	{"a percent that tells a digit", "%30%39", "09"},
	{"percents that tell plain marks", "%2d%2E%5f%7E", "-._~"},
	{"percents that tell other marks", "%21%26%27%28%29%2b%2c%3b%3d%3a%40%2f%3f", "%21%26%27%28%29%2B%2C%3B%3D%3A%40%2F%3F"},
	{"a percent that tells a percent", "%25", "%25"},
	{"a percent that tells a percent, ahead of digits", "%2541", "%2541"},
	{"what is freed is not read again", "%2%35", "%2525"},
	{"a percent alone", "%", "%25"},
	{"a percent and one digit", "%4", "%254"},
	{"a percent and one digit, and no digit", "%4g", "%254g"},
	{"a percent and no digit", "%g4", "%25g4"},
	{"two percents", "%%", "%25%25"},
	{"two percents and digits", "%%41", "%25A"},
	{"a percent at the end", "/a%", "/a%25"},
	{"a blank", " ", "%20"},
	{"blanks around", " a ", "%20a%20"},
	{"a tab and line's ends", "\t\r\n", "%09%0D%0A"},
	{"a remark's mark", "#", "%23"},
	{"marks that do not stay", "\"<>\\^`{|}[]", "%22%3C%3E%5C%5E%60%7B%7C%7D%5B%5D"},
	{"a rune", "é", "%C3%A9"},
	{"a rune of three bytes", "€", "%E2%82%AC"},
	{"bytes above 127", "\x80\xff", "%80%FF"},
	{"bytes 0 and 127", "\x00\x7f", "%00%7F"},
	{"dots stay", "/a/../b/.", "/a/../b/."},
	{"great letters stay", "/A", "/A"},
}

var fewRobots = robots(
	partFor(agents("a", "b"), allow("/ab"), disallow("/")),
	partFor(agents("*"), disallow("/any")),
	partFor(agents("b"), allow("/b")),
	partFor(agents("c", "*"), allow("/c"), allow("/c")),
	partFor(agents("none", "none")),
	partFor(agents("a", "a"), disallow("/twice")),
	partFor(agents(""), disallow("/empty")),
	partFor(agents("e")),
)

var fewWithoutAny = robots(
	partFor(agents("a"), allow("/a")),
	partFor(agents("b")),
	partFor(agents("c"), disallow("/c")),
)

type lines = []impl.Line

var agentLines = []struct {
	why   string
	r     impl.Robots
	agent string
	l     lines
}{
	{"no parts", robots(), "a", nil},
	{"no parts, any one", robots(), "*", nil},
	{"no parts, no name", robots(), "", nil},
	{"one part has it", fewRobots, "c", lines{allow("/c"), allow("/c")}},
	{"several have it", fewRobots, "b", lines{allow("/ab"), disallow("/"), allow("/b")}},
	{"several have it, one of them twice", fewRobots, "a", lines{allow("/ab"), disallow("/"), disallow("/twice")}},
	{"a part of no lines has it", fewRobots, "none", nil},
	{"the last part, of no lines, has it", fewRobots, "e", nil},
	{"no part has it", fewRobots, "nobody", lines{disallow("/any"), allow("/c"), allow("/c")}},
	{"any one", fewRobots, "*", lines{disallow("/any"), allow("/c"), allow("/c")}},
	{"any one and more", fewRobots, "*a", lines{disallow("/any"), allow("/c"), allow("/c")}},
	{"a great letter", fewRobots, "B", lines{allow("/ab"), disallow("/"), allow("/b")}},
	{"a version", fewRobots, "B/2.0 (x)", lines{allow("/ab"), disallow("/"), allow("/b")}},
	{"a name that begins so", fewRobots, "cc", lines{disallow("/any"), allow("/c"), allow("/c")}},
	{"a name that they begin with", fewRobots, "non", lines{disallow("/any"), allow("/c"), allow("/c")}},
	{"a blank ahead is no name", fewRobots, " a", lines{disallow("/empty")}},
	{"digits are no name", fewRobots, "1", lines{disallow("/empty")}},
	{"no name", fewRobots, "", lines{disallow("/empty")}},
	{"without any one: one part has it", fewWithoutAny, "a", lines{allow("/a")}},
	{"without any one: a part of no lines has it", fewWithoutAny, "b", nil},
	{"without any one: no part has it", fewWithoutAny, "nobody", nil},
	{"without any one: any one", fewWithoutAny, "*", nil},
	{"without any one: no name", fewWithoutAny, "", nil},
	{"any one in a part of no lines", robots(partFor(agents("*"))), "x", nil},
	{"any one twice in one part", robots(partFor(agents("*", "*"), allow("/"))), "x", lines{allow("/")}},
	{"no name, with any one alone", robots(partFor(agents("*"), allow("/"))), "", lines{allow("/")}},

	{"not read: no agents", robots(partFor(nil, allow("/"))), "a", nil},
	{"not read: no agents, no name", robots(partFor(nil, allow("/"))), "", nil},
	{"not read: no agents, any one", robots(partFor(nil, allow("/"))), "*", nil},
	{"not read: a great letter in it", robots(partFor(agents("A"), allow("/"))), "A", nil},
	{"not read: a great letter, any one behind", robots(partFor(agents("A"), allow("/")), partFor(agents("*"), allow("/x"))), "A", lines{allow("/x")}},
	{"not read: a version in it", robots(partFor(agents("a/1"), allow("/"))), "a/1", nil},
	{"not read: any one and more", robots(partFor(agents("*x"), allow("/"))), "*x", nil},
	{"not read: a blank in it", robots(partFor(agents(" a", "a "), allow("/"))), "a", nil},
	{"not read: an empty pattern", robots(partFor(agents("a"), allow(""), disallow(""))), "a", lines{allow(""), disallow("")}},
	{"not read: patterns that are not plain", robots(partFor(agents("a"), allow("%41\n#é"), disallow(" "))), "a", lines{allow("%41\n#é"), disallow(" ")}},
	{"not read: parts without lines between", robots(partFor(agents("a")), partFor(agents("a")), partFor(agents("a"), allow("/"))), "a", lines{allow("/")}},
}

// What no text gives, and its text, which need not be read as the same.
var strangeRobots = []struct {
	why  string
	r    impl.Robots
	text string
}{
	{"a part of nothing", robots(partFor(nil)), ""},
	{"parts of nothing", robots(partFor(nil), partFor(agents()), impl.Part{}), ""},
	{"no agents", robots(partFor(nil, allow("/"), disallow("/x"))), "allow: /\ndisallow: /x\n"},
	{"no agents behind a part", robots(partFor(agents("a"), allow("/")), partFor(nil, disallow("/x"))), "user-agent: a\nallow: /\ndisallow: /x\n"},
	{"parts without lines", robots(partFor(agents("a")), partFor(agents("b"))), "user-agent: a\nuser-agent: b\n"},
	{"an empty pattern", robots(partFor(agents("a"), allow(""), disallow(""))), "user-agent: a\nallow: \ndisallow: \n"},
	{"great letters", robots(partFor(agents("Bot/1"), allow("/A"))), "user-agent: Bot/1\nallow: /A\n"},
	{"patterns that are not plain", robots(partFor(agents("a"), allow("%41 #é\xff"), disallow("%2f"))), "user-agent: a\nallow: %41 #é\xff\ndisallow: %2f\n"},
	{"line's ends", robots(partFor(agents("a\nb"), allow("\n"), disallow("/\r\n"))), "user-agent: a\nb\nallow: \n\ndisallow: /\r\n\n"},
	{"blanks around", robots(partFor(agents(" a "), allow(" / "))), "user-agent:  a \nallow:  / \n"},
	{"any one and more", robots(partFor(agents("*x", "**"), allow("*"))), "user-agent: *x\nuser-agent: **\nallow: *\n"},
}

const mostRobots = 20000

var (
	robotsEnds = regexp.MustCompile(`[\n\r]`)
	robotsForm = regexp.MustCompile(`\A([^#:]*):([^#]*)`)
	robotsRows = regexp.MustCompile(`u+l*`)
	agentForm  = regexp.MustCompile(`\A(\*|[A-Za-z_-]*)`)
)

func wantAgent(s string) string { return wantLower(agentForm.FindString(s)) }

// wantPattern goes by the chapter's own marks, written out.
func wantPattern(s string) string {
	const stay = "abcdefghijklmnopqrstuvwxyzABCDEFGHIJKLMNOPQRSTUVWXYZ0123456789-._~!$&'()*+,;=:@/?"
	var text strings.Builder
	for s != "" {
		piece, c := percentPiece(s)
		s = s[len(piece):]
		switch {
		case c == '*' || c == '$':
			piece = map[int]string{'*': "%2A", '$': "%24"}[c]
		case c >= 0 && strings.Contains(plainBytes, oneByte(c)):
			piece = oneByte(c)
		case c >= 0:
			piece = wantPercent(c, greatDigits)
		case !strings.Contains(stay, piece):
			piece = wantPercent(int(piece[0]), greatDigits)
		}
		text.WriteString(piece)
	}
	return text.String()
}

// wantRobots writes a letter for each line that counts, and cuts the parts out
// of the row of letters: names, then lines.
func wantRobots(s string) impl.Robots {
	if len(s) > mostRobots {
		s = s[:mostRobots]
	}
	kinds, told := "", [][2]string{}
	for _, line := range robotsEnds.Split(s, -1) {
		form := robotsForm.FindStringSubmatch(line)
		if form == nil {
			continue
		}
		key := wantLower(strings.Trim(form[1], " \t\n\r"))
		value := strings.Trim(form[2], " \t\n\r")
		switch {
		case key == "user-agent":
			kinds += "u"
		case value != "" && (key == "allow" || key == "disallow"):
			kinds += "l"
		default:
			continue
		}
		told = append(told, [2]string{key, value})
	}
	r := impl.Robots{}
	for _, row := range robotsRows.FindAllStringIndex(kinds, -1) {
		p := impl.Part{}
		for _, x := range told[row[0]:row[1]] {
			if x[0] == "user-agent" {
				p.Agents = append(p.Agents, wantAgent(x[1]))
			} else {
				p.Lines = append(p.Lines, impl.Line{Allow: x[0] == "allow", Pattern: wantPattern(x[1])})
			}
		}
		r.Parts = append(r.Parts, p)
	}
	return r
}

func wantRobotsText(r impl.Robots) string {
	l := []string{}
	for _, p := range r.Parts {
		for _, name := range p.Agents {
			l = append(l, "user-agent: "+name)
		}
		for _, line := range p.Lines {
			l = append(l, map[bool]string{true: "allow: ", false: "disallow: "}[line.Allow]+line.Pattern)
		}
	}
	return strings.Join(append(l, ""), "\n")
}

func wantLines(r impl.Robots, agent string) lines {
	name := "*"
	for _, p := range r.Parts {
		if slices.Contains(p.Agents, wantAgent(agent)) {
			name = wantAgent(agent)
		}
	}
	l := lines{}
	for _, p := range r.Parts {
		if slices.Contains(p.Agents, name) {
			l = append(l, p.Lines...)
		}
	}
	return l
}

func sameRobots(a, b impl.Robots) bool {
	return slices.EqualFunc(a.Parts, b.Parts, func(x, y impl.Part) bool {
		return slices.Equal(x.Agents, y.Agents) && slices.Equal(x.Lines, y.Lines)
	})
}

// checkAgent asks for the promise, too: what is read is read as the same.
func checkAgent(t *testing.T, s string) {
	t.Helper()
	name := impl.AgentOf(s)
	if want := wantAgent(s); name != want {
		t.Fatalf("AgentOf(%q) = %q; want %q", s, name, want)
	}
	if again := impl.AgentOf(name); again != name {
		t.Fatalf("AgentOf(%q) = %q, then %q", s, name, again)
	}
}

func checkPattern(t *testing.T, s string) {
	t.Helper()
	pattern := impl.PatternOf(s)
	if want := wantPattern(s); pattern != want {
		t.Fatalf("PatternOf(%q) = %q; want %q", s, pattern, want)
	}
	if again := impl.PatternOf(pattern); again != pattern {
		t.Fatalf("PatternOf(%q) = %q, then %q", s, pattern, again)
	}
	if (pattern == "") != (s == "") {
		t.Fatalf("PatternOf(%q) = %q", s, pattern)
	}
}

func checkLines(t *testing.T, r impl.Robots, agent string) {
	t.Helper()
	if l, want := impl.LinesFor(r, agent), wantLines(r, agent); !slices.Equal(l, want) {
		t.Fatalf("LinesFor(%+v, %q) = %v; want %v", r, agent, l, want)
	}
}

func checkAllLines(t *testing.T, r impl.Robots) {
	t.Helper()
	for _, p := range r.Parts {
		for _, name := range p.Agents {
			checkLines(t, r, name)
		}
	}
	for _, name := range []string{"", "*", "a", "b", "A/1", "nobody"} {
		checkLines(t, r, name)
	}
}

// checkRead asks of what was read what every reading has: names and patterns
// as they are written, a name in each part, and lines in all but the last.
func checkRead(t *testing.T, r impl.Robots) {
	t.Helper()
	for i, p := range r.Parts {
		if len(p.Agents) == 0 || len(p.Lines) == 0 && i < len(r.Parts)-1 {
			t.Fatalf("the part %d of %+v is none that is read", i, r)
		}
		for _, name := range p.Agents {
			if again := impl.AgentOf(name); again != name {
				t.Fatalf("AgentOf(%q), which was read, is %q", name, again)
			}
		}
		for _, line := range p.Lines {
			if again := impl.PatternOf(line.Pattern); again != line.Pattern || again == "" {
				t.Fatalf("PatternOf(%q), which was read, is %q", line.Pattern, again)
			}
		}
	}
}

// checkRobots holds a text against a telling of its own, and what is read of
// it against the promise: read of its own text it is the same (a text that is
// too long is read up to MaxRobots bytes).
func checkRobots(t *testing.T, s string) {
	t.Helper()
	r := impl.ParseRobots(s)
	if want := wantRobots(s); !sameRobots(r, want) {
		t.Fatalf("ParseRobots(%q) = %+v; want %+v", s, r, want)
	}
	checkRead(t, r)
	text := impl.RobotsText(r)
	if want := wantRobotsText(r); text != want {
		t.Fatalf("RobotsText(%+v) = %q; want %q", r, text, want)
	}
	back := impl.ParseRobots(text)
	if len(text) > mostRobots {
		if !sameRobots(back, wantRobots(text)) {
			t.Fatalf("ParseRobots(%q) = %+v", text, back)
		}
		return
	}
	if !sameRobots(back, r) {
		t.Fatalf("ParseRobots(%q) = %+v; want %+v as of %q", text, back, r, s)
	}
	if again := impl.RobotsText(back); again != text {
		t.Fatalf("RobotsText of what is read of %q is %q", text, again)
	}
}

func TestMaxRobotsHasItsNumber(t *testing.T) {
	if impl.MaxRobots != 20000 {
		t.Error(impl.MaxRobots)
	}
}

func TestOwnRobots(t *testing.T) {
	for _, x := range ownRobots {
		if r := impl.ParseRobots(x.s); !sameRobots(r, x.r) {
			t.Errorf("%s: ParseRobots(%q) = %+v; want %+v", x.why, x.s, r, x.r)
		}
		if text := impl.RobotsText(x.r); text != x.s {
			t.Errorf("%s: RobotsText(%+v) = %q; want %q", x.why, x.r, text, x.s)
		}
		checkRobots(t, x.s)
		checkAllLines(t, x.r)
	}
}

func TestOtherRobots(t *testing.T) {
	for _, x := range otherRobots {
		r := impl.ParseRobots(x.s)
		if text := impl.RobotsText(r); text != x.text {
			t.Errorf("%s: ParseRobots(%q) is read as %q; want %q", x.why, x.s, text, x.text)
		}
		if want := impl.ParseRobots(x.text); !sameRobots(r, want) {
			t.Errorf("%s: ParseRobots(%q) = %+v; want %+v", x.why, x.s, r, want)
		}
		checkRobots(t, x.s)
		checkAllLines(t, r)
	}
}

func TestNoRobots(t *testing.T) {
	for _, x := range noRobots {
		if r := impl.ParseRobots(x.s); len(r.Parts) != 0 || impl.RobotsText(r) != "" || len(impl.LinesFor(r, "a")) != 0 {
			t.Errorf("%s: ParseRobots(%q) = %+v", x.why, x.s, r)
		}
		checkRobots(t, x.s)
		ahead := "user-agent: *\ndisallow: /ahead\n"
		behind := "\nuser-agent: a\nallow: /behind\n"
		if text := impl.RobotsText(impl.ParseRobots(x.s + behind)); text != behind[1:] {
			t.Errorf("%s: with a part behind it is %q", x.why, text)
		}
		checkRobots(t, ahead+x.s+behind)
	}
}

// Where a part begins, for every row of five lines.
func TestWhereAPartBegins(t *testing.T) {
	kinds := []string{"user-agent: a\n", "user-agent:\n", "allow: /x\n", "disallow:\n", "sitemap: x\n", "\n"}
	eachText("012345", 5, func(row string) {
		s, parts, open := "", 0, false
		for _, c := range []byte(row) {
			s += kinds[c-'0']
			switch {
			case c <= '1' && !open:
				parts, open = parts+1, true
			case c == '2':
				open = false
			}
		}
		if r := impl.ParseRobots(s); len(r.Parts) != parts {
			t.Fatalf("ParseRobots(%q) has %d parts; want %d", s, len(r.Parts), parts)
		}
		checkRobots(t, s)
	})
}

// filled is a text of that many bytes that ends with tail.
func filled(many int, tail string) string {
	const ahead = "user-agent: a\nallow: /x\n"
	return ahead + strings.Repeat("#", many-len(ahead)-len(tail)-1) + "\n" + tail
}

func TestRobotsOfMaxRobotsBytes(t *testing.T) {
	const ahead = "user-agent: a\nallow: /x\n"
	for _, x := range []struct{ why, tail, behind, text string }{
		{"a line that ends there", "allow: /y\n", "", "allow: /y\n"},
		{"a line without an end there", "allow: /y", "", "allow: /y\n"},
		{"one byte more, of the value", "allow: /y", "z", "allow: /y\n"},
		{"one byte more, the line's end", "allow: /y", "\n", "allow: /y\n"},
		{"one byte more, of both ends", "allow: /y\r", "\n", "allow: /y\n"},
		{"lines behind", "allow: /y\n", "allow: /z\nuser-agent: b\nallow: /\n", "allow: /y\n"},
		{"a line from there on", "", "allow: /z\n", ""},
		{"a value that begins there", "allow: ", "/y\n", ""},
		{"the first byte of a value", "allow: /", "y\n", "allow: /\n"},
		{"a colon from there on", "allow", ": /y\n", ""},
		{"a key that is cut", "allo", "w: /y\n", ""},
		{"a key that is cut to another", "dis", "allow: /y\n", ""},
		{"a percent that is cut", "allow: /%4", "1\n", "allow: /%254\n"},
		{"a percent that is cut ahead of its digits", "allow: /%", "41\n", "allow: /%25\n"},
		{"a percent that is whole", "allow: /%41", "%42\n", "allow: /A\n"},
		{"a rune that is cut", "allow: /\xc3", "\xa9\n", "allow: /%C3\n"},
		{"a name that is cut", "user-agent: b", "c\nallow: /y\n", "user-agent: b\n"},
		{"a name from there on", "user-agent:", " b\n", "user-agent: \n"},
		{"a remark from there on", "allow: /y ", "# z\n", "allow: /y\n"},
		{"a remark's mark at the end", "allow: /y #", " z\n", "allow: /y\n"},
	} {
		s := filled(mostRobots, x.tail) + x.behind
		if text := impl.RobotsText(impl.ParseRobots(s)); text != ahead+x.text {
			t.Errorf("%s: %q; want %q", x.why, text, ahead+x.text)
		}
		checkRobots(t, s)
	}
}

func TestRobotsOfAboutMaxRobotsBytes(t *testing.T) {
	for many := mostRobots - 15; many <= mostRobots+15; many++ {
		for _, tail := range []string{"allow: /yz\n", "user-agent: bot\n", "disallow: /%41%42", "user-agent: b\r\nallow: /\r\n"} {
			checkRobots(t, filled(many, tail))
		}
	}
}

// A text of RobotsText's own that has MaxRobots bytes comes back whole; of one
// that is longer comes back what its first MaxRobots bytes tell.
func TestOwnTextsOfAboutMaxRobotsBytes(t *testing.T) {
	for many := mostRobots - 3; many <= mostRobots+3; many++ {
		r := robots(partFor(agents("a"), disallow("/"+strings.Repeat("x", many-26))))
		text := impl.RobotsText(r)
		if len(text) != many {
			t.Fatalf("a text of %d bytes; want %d", len(text), many)
		}
		kept := min(many-26, mostRobots-25)
		want := robots(partFor(agents("a"), disallow("/"+strings.Repeat("x", kept))))
		if back := impl.ParseRobots(text); !sameRobots(back, want) {
			t.Errorf("of %d bytes comes another thing", many)
		}
		if back := impl.ParseRobots(text); sameRobots(back, r) != (many <= mostRobots+1) {
			t.Errorf("of %d bytes the same comes: %v", many, many > mostRobots+1)
		}
		checkRobots(t, text)
	}
	checkRobots(t, "user-agent: a\nallow: /"+strings.Repeat("\xff", 7000)+"\nallow: /y\n")
	checkRobots(t, strings.Repeat("user-agent:a\nallow:/\n", 1000))
}

func TestAgentTexts(t *testing.T) {
	for _, x := range agentTexts {
		if name := impl.AgentOf(x.s); name != x.name {
			t.Errorf("%s: AgentOf(%q) = %q; want %q", x.why, x.s, name, x.name)
		}
		checkAgent(t, x.s)
		checkRobots(t, "user-agent: "+x.s+"\nallow: /\n")
	}
}

func TestAgentOfEveryByte(t *testing.T) {
	for c := range 256 {
		b := oneByte(c)
		for _, s := range []string{b, b + b, b + "a", "a" + b, "a" + b + "c", "*" + b, b + "*", "Ab-_" + b + "Z"} {
			checkAgent(t, s)
			checkRobots(t, "user-agent:"+s+"\nallow:/\nuser-agent: x"+s)
		}
	}
}

func TestAgentOfEveryShortText(t *testing.T) {
	eachText("aZ_-*1 ", 5, func(s string) { checkAgent(t, s) })
}

func TestPatternTexts(t *testing.T) {
	for _, x := range patternTexts {
		if pattern := impl.PatternOf(x.s); pattern != x.pattern {
			t.Errorf("%s: PatternOf(%q) = %q; want %q", x.why, x.s, pattern, x.pattern)
		}
		checkPattern(t, x.s)
		checkRobots(t, "user-agent: a\nallow: "+x.s+"\ndisallow: x"+x.s+"\n")
	}
}

func TestPatternOfEveryByte(t *testing.T) {
	for c := range 256 {
		b := oneByte(c)
		for _, s := range []string{b, b + b, "/" + b, b + "/", "a" + b + "c", "%" + b, "%4" + b, "%" + b + "1", b + "41", "%41" + b} {
			checkPattern(t, s)
			checkRobots(t, "user-agent: a\nallow: "+s+"\ndisallow:"+s+"x\n")
		}
	}
}

func TestPatternOfEveryPercent(t *testing.T) {
	for c := range 256 {
		for _, high := range []string{smallDigits, greatDigits} {
			for _, low := range []string{smallDigits, greatDigits} {
				s := "%" + high[c/16:c/16+1] + low[c%16:c%16+1]
				want := strings.ToUpper(s)
				if strings.Contains(plainBytes, oneByte(c)) {
					want = oneByte(c)
				}
				if pattern := impl.PatternOf(s); pattern != want {
					t.Errorf("PatternOf(%q) = %q; want %q", s, pattern, want)
				}
				checkPattern(t, "/"+s+s+"x")
				checkPattern(t, "%"+s)
			}
		}
	}
}

func TestPatternOfEveryShortText(t *testing.T) {
	eachText("%24aA*$", 5, func(s string) { checkPattern(t, s) })
	eachText("/? #:\xc3\n", 4, func(s string) { checkPattern(t, s) })
}

func TestAgentLines(t *testing.T) {
	for _, x := range agentLines {
		if l := impl.LinesFor(x.r, x.agent); !slices.Equal(l, x.l) {
			t.Errorf("%s: LinesFor(%+v, %q) = %v; want %v", x.why, x.r, x.agent, l, x.l)
		}
		checkAllLines(t, x.r)
	}
}

// Lines of what was read, and of what is read of its text: the same.
func TestLinesOfWhatWasRead(t *testing.T) {
	for _, x := range otherRobots {
		r := impl.ParseRobots(x.s)
		back := impl.ParseRobots(impl.RobotsText(r))
		for _, name := range []string{"a", "b", "bot", "*", "", "nobody"} {
			if l, again := impl.LinesFor(r, name), impl.LinesFor(back, name); !slices.Equal(l, again) {
				t.Errorf("%s: LinesFor %q: %v, then %v", x.why, name, l, again)
			}
		}
	}
}

func TestStrangeRobots(t *testing.T) {
	for _, x := range strangeRobots {
		if text := impl.RobotsText(x.r); text != x.text || text != wantRobotsText(x.r) {
			t.Errorf("%s: RobotsText(%+v) = %q; want %q", x.why, x.r, text, x.text)
		}
		checkAllLines(t, x.r)
		checkRobots(t, x.text)
	}
}

func TestRobotsOfEveryByte(t *testing.T) {
	for c := range 256 {
		b := oneByte(c)
		for _, whole := range []string{"user-agent: a\nallow: /x\n", "user-agent: *\ndisallow:\nuser-agent: b\nallow: %2a#c\n"} {
			for at := range len(whole) + 1 {
				checkRobots(t, whole[:at]+b+whole[at:])
				if at < len(whole) {
					checkRobots(t, whole[:at]+b+whole[at+1:])
				}
			}
		}
		checkRobots(t, b)
		checkRobots(t, b+":"+b)
	}
}

func TestRobotsOfEveryShortText(t *testing.T) {
	eachText("a:# \n\r", 5, func(s string) {
		checkRobots(t, s)
		checkRobots(t, "user-agent"+s)
		checkRobots(t, "user-agent: b\nallow"+s)
	})
}

func TestRobotsOfManyPieces(t *testing.T) {
	turn := rand.New(rand.NewSource(16))
	pieces := []string{
		"user-agent: a\n", "user-agent: b\n", "user-agent:*\r\n", "allow: /\n", "disallow: /x\n", "disallow:\n", "sitemap: x\n", "\n",
		"User-Agent", "allow", "DISALLOW", ":", ":", " ", "#", "\r", "/", "%2a", "%41", "%", "*", "$", "é", "\xff", "\x00", "\t", "Bot/1",
	}
	for range 30000 {
		of := pieces[:4+turn.Intn(len(pieces)-3)]
		s := ""
		for range turn.Intn(24) {
			s += of[turn.Intn(len(of))]
		}
		checkRobots(t, s)
		checkAllLines(t, impl.ParseRobots(s))
	}
	for range 20 {
		s := ""
		for len(s) < mostRobots+100 {
			s += pieces[turn.Intn(len(pieces))]
		}
		checkRobots(t, s)
	}
}

func TestRobotsOfManyStrangeOnes(t *testing.T) {
	turn := rand.New(rand.NewSource(17))
	texts := []string{"a", "b", "*", "", "A", "a/1", "*x", " a", "/", "%41", "\n", "#", "é"}
	some := func() string { return texts[turn.Intn(len(texts))] }
	for range 10000 {
		r := impl.Robots{}
		for range turn.Intn(5) {
			p := impl.Part{}
			for range turn.Intn(3) {
				p.Agents = append(p.Agents, some())
			}
			for range turn.Intn(3) {
				p.Lines = append(p.Lines, impl.Line{Allow: turn.Intn(2) == 0, Pattern: some()})
			}
			r.Parts = append(r.Parts, p)
		}
		if text, want := impl.RobotsText(r), wantRobotsText(r); text != want {
			t.Fatalf("RobotsText(%+v) = %q; want %q", r, text, want)
		}
		checkAllLines(t, r)
		checkLines(t, r, some())
	}
}

func TestRobotsOfVeryMany(t *testing.T) {
	s := strings.Repeat("user-agent:a\nallow:/\n", 100000)
	if r := impl.ParseRobots(s); len(r.Parts) != 952 || len(impl.LinesFor(r, "a")) != 952 {
		t.Errorf("%d parts, %d lines", len(r.Parts), len(impl.LinesFor(r, "a")))
	}
	name := strings.Repeat("Ab", 100000)
	if impl.AgentOf(name+"/1") != strings.Repeat("ab", 100000) {
		t.Error("a very long name")
	}
	r := robots(slices.Repeat([]impl.Part{partFor(agents("b", "a"), allow("/"))}, 50000)...)
	if len(impl.LinesFor(r, "a")) != 50000 || len(impl.RobotsText(r)) != 50000*37 {
		t.Error("very many parts")
	}
}

// roomyRobots has more behind each list's length, which a call must neither
// read nor write.
func roomyRobots() (room []impl.Part, nameRoom [][]string, lineRoom []lines) {
	for _, p := range append(slices.Clone(fewRobots.Parts), partFor(agents("a"), allow("/behind"))) {
		names := append(slices.Clone(p.Agents), "nobody", "a", "*")
		ls := append(slices.Clone(p.Lines), allow("/behind"), disallow("/behind"))
		nameRoom, lineRoom = append(nameRoom, names), append(lineRoom, ls)
		room = append(room, impl.Part{Agents: names[:len(p.Agents)], Lines: ls[:len(p.Lines)]})
	}
	return room, nameRoom, lineRoom
}

func TestRobotsLeaveTheirArgument(t *testing.T) {
	room, nameRoom, lineRoom := roomyRobots()
	before, namesBefore, linesBefore := roomyRobots()
	r := impl.Robots{Parts: room[:len(fewRobots.Parts)]}
	if text := impl.RobotsText(r); text != wantRobotsText(fewRobots) {
		t.Errorf("behind the lists' length something is read: %q", text)
	}
	for _, x := range agentLines {
		l := impl.LinesFor(r, x.agent)
		if want := wantLines(fewRobots, x.agent); !slices.Equal(l, want) {
			t.Errorf("LinesFor %q reads behind the lists' length: %v", x.agent, l)
		}
		for i := range l {
			l[i] = allow("/written")
		}
		_ = append(l, allow("/written"), allow("/written"), allow("/written"))
	}
	if !reflect.DeepEqual(room, before) || !reflect.DeepEqual(nameRoom, namesBefore) || !reflect.DeepEqual(lineRoom, linesBefore) {
		t.Error("written into the argument, or behind it", room, nameRoom, lineRoom)
	}
}

func checkLinesAreNew(t *testing.T, r impl.Robots, name string) {
	t.Helper()
	l, again := impl.LinesFor(r, name), impl.LinesFor(r, name)
	if overlap(l, again) {
		t.Errorf("two answers for %q share memory", name)
	}
	for _, p := range r.Parts {
		if overlap(l, p.Lines) {
			t.Errorf("the lines for %q lie in a part's", name)
		}
		for _, of := range p.Lines {
			for _, line := range l {
				if lies(line.Pattern, of.Pattern) {
					t.Errorf("the pattern %q for %q lies in its argument's memory", line.Pattern, name)
				}
			}
		}
	}
}

// All parts, and each of them alone: one list of lines is copied, too.
func TestLinesAreNewMemory(t *testing.T) {
	r := robots(
		partFor(agents("a"), allow(strings.Clone("/one")), disallow(strings.Clone("/two"))),
		partFor(agents("b"), allow(strings.Clone("/three"))),
		partFor(agents("a", "*"), disallow(strings.Clone("/four"))),
	)
	for _, name := range []string{"a", "b", "*", "nobody"} {
		checkLinesAreNew(t, r, name)
		for _, p := range r.Parts {
			checkLinesAreNew(t, robots(p), name)
		}
	}
}

func TestRobotsTextsAreNewMemory(t *testing.T) {
	s := strings.Clone("user-agent: bot\nuser-agent: other\nallow: /one\ndisallow: /two\nuser-agent: *\nallow: /three\n")
	r := impl.ParseRobots(s)
	text := impl.RobotsText(r)
	for _, p := range r.Parts {
		told := slices.Clone(p.Agents)
		for _, line := range p.Lines {
			told = append(told, line.Pattern)
		}
		for _, x := range told {
			if lies(x, s) {
				t.Errorf("%q lies in its argument's memory", x)
			}
			if lies(text, x) {
				t.Errorf("the text lies in the memory of %q", x)
			}
		}
	}
	name, pattern := strings.Clone("bot"), strings.Clone("/one")
	if lies(impl.AgentOf(name), name) || lies(impl.PatternOf(pattern), pattern) {
		t.Error("a name or a pattern lies in its argument's memory")
	}
}

// No list of what was read shares memory with another one, in one answer or
// in two: what is written behind one's length is in no other.
func TestReadRobotsShareNoMemory(t *testing.T) {
	const s = "user-agent: a\nuser-agent: b\nallow: /1\nallow: /2\nallow: /3\nuser-agent: c\nallow: /4\nuser-agent: d\nuser-agent: e\nuser-agent: f\ndisallow: /5\nuser-agent: g\n"
	r, again := impl.ParseRobots(s), impl.ParseRobots(s)
	if overlap(r.Parts, again.Parts) {
		t.Error("two answers share their parts")
	}
	for i, p := range r.Parts {
		if overlap(p.Agents, p.Lines) || overlap(p.Agents, r.Parts) || overlap(p.Lines, r.Parts) {
			t.Errorf("the lists of part %d share memory", i)
		}
		for k, other := range append(slices.Clone(r.Parts), again.Parts...) {
			if k != i && (overlap(p.Agents, other.Agents) || overlap(p.Lines, other.Lines) || overlap(p.Agents, other.Lines) || overlap(p.Lines, other.Agents)) {
				t.Errorf("the parts %d and %d share memory", i, k)
			}
		}
	}
	for i := range r.Parts {
		p := &r.Parts[i]
		_ = append(p.Agents, "x", "x")
		_ = append(p.Lines, allow("/x"), allow("/x"))
		p.Agents[0] = "x"
	}
	if text := impl.RobotsText(again); text != s {
		t.Errorf("a second answer shares the first one's memory: %q", text)
	}
	if text := impl.RobotsText(impl.ParseRobots(s)); text != s {
		t.Errorf("a third answer shares the first one's memory: %q", text)
	}
}

func TestRobotsKeepNothing(t *testing.T) {
	for _, x := range otherRobots {
		impl.ParseRobots(x.s)
		if r := impl.ParseRobots("allow: /\n"); len(r.Parts) != 0 {
			t.Fatalf("%s: behind it a line has a part: %+v", x.why, r)
		}
		if l := impl.LinesFor(impl.Robots{}, "a"); len(l) != 0 {
			t.Fatalf("%s: behind it LinesFor nothing answers %v", x.why, l)
		}
	}
}
