package tests

import (
	"math/rand"
	"regexp"
	"slices"
	"strings"
	"testing"

	"loop.example/g00191/impl"
)

// Texts with a scheme ahead.
var schemeTexts = []struct{ why, s, scheme string }{
	{"an address", "http://a.com/", "http"},
	{"an address of the other scheme", "https://a.com/", "https"},
	{"great letters", "HTTP://A.com/B", "http"},
	{"mixed letters", "hTtPs:", "https"},
	{"no address", "mailto:x@a.com", "mailto"},
	{"no address, in great letters", "MAILTO:X", "mailto"},
	{"nothing behind the colon", "x:", "x"},
	{"one great letter", "Z:", "z"},
	{"the first and the last letters", "azAZ:", "azaz"},
	{"digits behind a letter", "a0189:b", "a0189"},
	{"a plus behind a letter", "git+ssh:b", "git+ssh"},
	{"a hyphen behind a letter", "x-y:b", "x-y"},
	{"a dot behind a letter", "x.y:b", "x.y"},
	{"marks alone behind a letter", "A+-.:", "a+-."},
	{"a name and a port", "a.com:80/b", "a.com"},
	{"two colons", "a:b:c", "a"},
	{"a colon right behind the colon", "a::", "a"},
	{"other bytes behind the colon", "a:é/ \x00\xff", "a"},
	{"very many letters", strings.Repeat("aB", 5000) + ":", strings.Repeat("ab", 5000)},
}

// Texts without one.
var noSchemeTexts = []struct{ why, s string }{
	{"nothing", ""},
	{"a letter", "a"},
	{"a scheme without its colon", "http"},
	{"slashes without a colon", "http//a.com"},
	{"a colon alone", ":"},
	{"a colon first", ":a"},
	{"a colon first, an address behind it", ":http://a.com/"},
	{"two colons first", "::a:"},
	{"a digit first", "1a:"},
	{"a digit alone", "0:"},
	{"a plus first", "+a:"},
	{"a plus alone", "+:"},
	{"a hyphen first", "-a:"},
	{"a dot first", ".a:"},
	{"dots ahead of a slash", "./a:b"},
	{"a slash first", "/a:b"},
	{"a slash ahead of the colon", "a/b:c"},
	{"a backslash ahead of the colon", `a\b:c`},
	{"a ? ahead of the colon", "a?b:c"},
	{"a # ahead of the colon", "a#b:c"},
	{"a blank first", " http://a.com/"},
	{"a blank ahead of the colon", "http ://a.com/"},
	{"a tab within", "ht\ttp://a.com/"},
	{"a line's end ahead of the colon", "http\n://a.com/"},
	{"a byte 0 within", "a\x00b:"},
	{"a line below", "a_b:"},
	{"a tilde", "a~:"},
	{"a percent", "%68ttp:"},
	{"a colon by a percent", "http%3A//a.com/"},
	{"a bracket", "[::1]:80"},
	{"the byte ahead of A", "@a:"},
	{"the byte behind Z", "a[:"},
	{"the byte ahead of a", "a`:"},
	{"the byte behind z", "a{:"},
	{"the comma between plus and hyphen", "a,b:"},
	{"the byte ahead of plus", "a*:"},
	{"a rune", "é:"},
	{"a rune behind a letter", "aé:"},
	{"a rune that is small as a letter", "\u212a:"},
	{"a rune that is great as a letter", "http\u017f:"},
	{"a byte 128", "a\x80:"},
	{"a byte 255", "\xff:"},
	{"a letter's byte and 128", "a\xe1:"},
}

const (
	plainBase = "http://a.com/b/c/d?q"
	thickBase = "https://a.com:8443/b//c/"
	slashBase = "http://a.com//b/c"
	rootBase  = "https://[::1]/?"
	fourBase  = "http://1.2.3.4:443//"
)

var baseTexts = []string{plainBase, thickBase, slashBase, rootBase, fourBase}

// What texts tell beside a base.
var besideTexts = []struct{ why, base, s, text string }{
	{"nothing", plainBase, "", plainBase},
	{"nothing, no query", slashBase, "", slashBase},
	{"nothing, an empty query", rootBase, "", rootBase},
	{"a blank", plainBase, " ", plainBase},
	{"blanks alone", plainBase, " \t\r\n ", plainBase},
	{"a # alone", plainBase, "#", plainBase},
	{"a # and what is behind it", plainBase, "#x", plainBase},
	{"a # and an address behind it", plainBase, "#http://b.org/", plainBase},
	{"a # and two slashes behind it", plainBase, "#//b.org", plainBase},
	{"a # and a query behind it", plainBase, "#?y", plainBase},
	{"blanks ahead of a #", plainBase, " \n #x", plainBase},

	{"a whole address", plainBase, "http://b.org/x", "http://b.org/x"},
	{"a whole address of the other scheme", plainBase, "https://c.net/x?y", "https://c.net/x?y"},
	{"a whole address with great letters", plainBase, "HTTPS://C.net:443", "https://c.net/"},
	{"a whole address with dots", plainBase, "http://b.org/x/../y/.", "http://b.org/y/"},
	{"a whole address with a #", plainBase, "http://b.org#x", "http://b.org/"},
	{"a whole address with three slashes", plainBase, "http:///b.org", "http://b.org/"},
	{"a whole address with backslashes", plainBase, `http:\\b.org\x`, "http://b.org/x"},
	{"a whole address with no query", plainBase, "http://a.com/b/c/d", "http://a.com/b/c/d"},
	{"a whole address with the scheme's own port", thickBase, "https://a.com", "https://a.com/"},
	{"a whole address, blanks around", plainBase, "\r\n http://b.org/ \t", "http://b.org/"},
	{"a whole address with a break in its scheme", plainBase, "ht\ntp://b.org/", "http://b.org/"},
	{"a whole address with a break ahead of the colon", plainBase, "http\t://b.org/", "http://b.org/"},
	{"a whole address with breaks between its slashes", plainBase, "http:/\r\n/b.org/", "http://b.org/"},
	{"a whole address, a blank ahead of the #", plainBase, "http://b.org/x #y", "http://b.org/x"},
	{"a whole address, a blank in its query ahead of the #", plainBase, "http://b.org/?x #y", "http://b.org/?x"},
	{"a whole address, a blank behind its host, ahead of the #", plainBase, "http://b.org #y", "http://b.org/"},

	{"two slashes", plainBase, "//b.org", "http://b.org/"},
	{"two slashes, the other scheme", thickBase, "//b.org/x?y", "https://b.org/x?y"},
	{"two slashes and a port", plainBase, "//b.org:90/", "http://b.org:90/"},
	{"two slashes and the scheme's own port", rootBase, "//b.org:443", "https://b.org/"},
	{"two slashes and the other scheme's port", plainBase, "//b.org:443", "http://b.org:443/"},
	{"two slashes and an address of eight", plainBase, "//[::1]/x", "http://[::1]/x"},
	{"two slashes and a query", plainBase, "//b.org?x", "http://b.org/?x"},
	{"two slashes and a #", plainBase, "//b.org#x", "http://b.org/"},
	{"two slashes and dots", plainBase, "//b.org/../x", "http://b.org/x"},
	{"two slashes and a way back at the end", plainBase, "//b.org/..", "http://b.org/"},
	{"two slashes, then two more", plainBase, "//b.org//x", "http://b.org//x"},
	{"two backslashes", plainBase, `\\b.org\z`, "http://b.org/z"},
	{"a slash and a backslash", plainBase, `/\b.org/z`, "http://b.org/z"},
	{"a backslash and a slash", plainBase, `\/b.org/z`, "http://b.org/z"},
	{"three slashes", plainBase, "///b.org/z", "http://b.org/z"},
	{"three backslashes", plainBase, `\\\b.org`, "http://b.org/"},
	{"three of both", plainBase, `/\/b.org`, "http://b.org/"},
	{"seven slashes", plainBase, "///////b.org", "http://b.org/"},
	{"a break between two slashes", plainBase, "/\n/b.org/z", "http://b.org/z"},
	{"breaks around two slashes", plainBase, "\t/\r\n\\\tb.org/z", "http://b.org/z"},
	{"blanks ahead of two slashes", plainBase, "  //b.org/z", "http://b.org/z"},
	{"two slashes and a colon in the path", plainBase, "//b.org/x:y", "http://b.org/x:y"},
	{"two slashes, a blank ahead of the #", plainBase, "//b.org/x #y", "http://b.org/x"},
	{"two slashes, a blank behind the host, ahead of the #", plainBase, "//b.org #y", "http://b.org/"},
	{"two slashes, a blank as a port ahead of the #", plainBase, "//b.org: #y", "http://b.org/"},
	{"two slashes, a whole address behind them", plainBase, "//http://b.org/x:y", "http://http//b.org/x:y"},

	{"a slash", plainBase, "/", "http://a.com/"},
	{"a backslash", plainBase, `\`, "http://a.com/"},
	{"a slash, a port", thickBase, "/", "https://a.com:8443/"},
	{"a slash, an address of eight", rootBase, "/", "https://[::1]/"},
	{"a slash, a base of two", fourBase, "/", "http://1.2.3.4:443/"},
	{"a path with a slash ahead", plainBase, "/g", "http://a.com/g"},
	{"a path with a backslash ahead", plainBase, `\g`, "http://a.com/g"},
	{"a path with a slash ahead and a query", plainBase, "/g?h", "http://a.com/g?h"},
	{"a path with a slash ahead and dots", plainBase, "/g/../h/.", "http://a.com/h/"},
	{"a path with a slash ahead, a base of two", slashBase, "/g", "http://a.com/g"},
	{"a slash and a dot and two slashes", plainBase, "/.//g", "http://a.com//g"},
	{"a slash and a way back and two slashes", plainBase, "/..//g", "http://a.com//g"},
	{"a slash and a percent of one", plainBase, "/%2Fg", "http://a.com/%2Fg"},
	{"a slash and a percent of a backslash", plainBase, "/%5cg", "http://a.com/%5Cg"},
	{"a slash and a blank and a slash", plainBase, "/ /g", "http://a.com/%20/g"},
	{"two slashes further on", plainBase, "/g//h", "http://a.com/g//h"},
	{"a slash and a #", plainBase, "/#/g", "http://a.com/"},
	{"a slash and a colon", plainBase, "/g:h", "http://a.com/g:h"},

	{"a path", plainBase, "g", "http://a.com/b/c/g"},
	{"a path, a base that ends with a slash", thickBase, "g", "https://a.com:8443/b//c/g"},
	{"a path, a base of one slash", rootBase, "g", "https://[::1]/g"},
	{"a path, a base that begins with two slashes", slashBase, "g", "http://a.com//b/g"},
	{"a path, a base of two slashes alone", fourBase, "g", "http://1.2.3.4:443//g"},
	{"a path with an empty end", plainBase, "g/", "http://a.com/b/c/g/"},
	{"a path of two parts", plainBase, "g/h", "http://a.com/b/c/g/h"},
	{"a path with a backslash", plainBase, `g\h`, "http://a.com/b/c/g/h"},
	{"a path with ways back between backslashes", plainBase, `g\..\..\h`, "http://a.com/b/h"},
	{"a path with two slashes behind it", plainBase, "g//h", "http://a.com/b/c/g//h"},
	{"a path with a query", plainBase, "g?y", "http://a.com/b/c/g?y"},
	{"a path with an empty query", plainBase, "g?", "http://a.com/b/c/g?"},
	{"a path with a query and a #", plainBase, "g?y#s", "http://a.com/b/c/g?y"},
	{"a path with a # and a query behind it", plainBase, "g#s?y", "http://a.com/b/c/g"},
	{"a path with two of ?", plainBase, "g?y?z", "http://a.com/b/c/g?y?z"},
	{"a path with dots in its query", plainBase, "g?y/../x", "http://a.com/b/c/g?y/../x"},
	{"a path with dots behind its #", plainBase, "g#s/../x", "http://a.com/b/c/g"},
	{"a backslash behind the first ?", plainBase, `g\h?y\z`, "http://a.com/b/c/g/h?y%5Cz"},
	{"a ? and slashes behind it", plainBase, "g?//b.org", "http://a.com/b/c/g?//b.org"},
	{"a path with a mark", plainBase, ";x", "http://a.com/b/c/;x"},
	{"a path with marks", plainBase, "g;x=1/../y", "http://a.com/b/c/y"},
	{"a path with a blank", plainBase, "g h", "http://a.com/b/c/g%20h"},
	{"a path with blanks around", plainBase, " g ", "http://a.com/b/c/g"},
	{"a path with a blank ahead of the #", plainBase, "g #h", "http://a.com/b/c/g%20"},
	{"a path with breaks in it", plainBase, "g\n/\th", "http://a.com/b/c/g/h"},
	{"a path with a break in a way back", plainBase, ".\r./g", "http://a.com/b/g"},
	{"a path with a break in a percent", plainBase, "%4\n1", "http://a.com/b/c/A"},
	{"a path with percents", plainBase, "%67%2f%c3", "http://a.com/b/c/g%2F%C3"},
	{"a path with a percent without digits", plainBase, "%", "http://a.com/b/c/%25"},
	{"a path with runes", plainBase, "é?ü", "http://a.com/b/c/%C3%A9?%C3%BC"},
	{"a path with bytes that are no runes", plainBase, "\xff?\xfe", "http://a.com/b/c/%FF?%FE"},
	{"a path with a byte 0", plainBase, "\x00", "http://a.com/b/c/%00"},
	{"a path of another blank", plainBase, "\v", "http://a.com/b/c/%0B"},
	{"a path with an @", plainBase, "u@b.org", "http://a.com/b/c/u@b.org"},
	{"a path with a colon first", plainBase, ":g", "http://a.com/b/c/:g"},
	{"a path with a digit ahead of its colon", plainBase, "1:2", "http://a.com/b/c/1:2"},
	{"a path with a slash ahead of its colon", plainBase, "g/http://b.org", "http://a.com/b/c/g/http://b.org"},
	{"a path with a dot ahead of its colon", plainBase, "./g:h", "http://a.com/b/c/g:h"},
	{"a path with a colon by a percent", plainBase, "http%3A//b.org", "http://a.com/b/c/http%3A//b.org"},
	{"a path with a blank ahead of its colon", plainBase, "http ://b.org", "http://a.com/b/c/http%20://b.org"},
	{"a path with a rune ahead of its colon", plainBase, "é:g", "http://a.com/b/c/%C3%A9:g"},
	{"a path with a ? ahead of its colon", plainBase, "g?http://b.org", "http://a.com/b/c/g?http://b.org"},
	{"a path with a # ahead of its colon", plainBase, "g#http://b.org", "http://a.com/b/c/g"},
	{"a name without its scheme", plainBase, "b.org", "http://a.com/b/c/b.org"},
	{"a name without its scheme, and a path", plainBase, "b.org/x", "http://a.com/b/c/b.org/x"},

	{"a dot", plainBase, ".", "http://a.com/b/c/"},
	{"a dot and a slash", plainBase, "./", "http://a.com/b/c/"},
	{"a dot ahead", plainBase, "./g", "http://a.com/b/c/g"},
	{"dots ahead and at the end", plainBase, "./g/.", "http://a.com/b/c/g/"},
	{"a dot within", plainBase, "g/./h", "http://a.com/b/c/g/h"},
	{"two dots", plainBase, "..", "http://a.com/b/"},
	{"two dots and a slash", plainBase, "../", "http://a.com/b/"},
	{"two dots ahead", plainBase, "../g", "http://a.com/b/g"},
	{"two dots within", plainBase, "g/../h", "http://a.com/b/c/h"},
	{"two ways back", plainBase, "../..", "http://a.com/"},
	{"two ways back and a part", plainBase, "../../g", "http://a.com/g"},
	{"more ways back than there are parts", plainBase, "../../../g", "http://a.com/g"},
	{"very many ways back", plainBase, strings.Repeat("../", 600) + "g", "http://a.com/g"},
	{"ways back by percents", plainBase, "%2e%2E/.%2e/g", "http://a.com/g"},
	{"ways back by backslashes", plainBase, `..\..\g`, "http://a.com/g"},
	{"two dots, a query", plainBase, "..?y", "http://a.com/b/?y"},
	{"two dots, a #", plainBase, "..#y", "http://a.com/b/"},
	{"three dots", plainBase, "...", "http://a.com/b/c/..."},
	{"dots that are no ways", plainBase, "..g/g../.h", "http://a.com/b/c/..g/g../.h"},
	{"a dot, a base of one slash", rootBase, ".", "https://[::1]/"},
	{"two dots, a base of one slash", rootBase, "..", "https://[::1]/"},
	{"a dot, a base of two slashes", fourBase, ".", "http://1.2.3.4:443//"},
	{"two dots, a base of two slashes", fourBase, "..", "http://1.2.3.4:443/"},
	{"two dots, a base that begins with two slashes", slashBase, "..", "http://a.com//"},
	{"two ways back, a base that begins with two slashes", slashBase, "../..", "http://a.com/"},
	{"two dots, a base with an empty part", thickBase, "../..", "https://a.com:8443/b/"},
	{"a dot and two slashes, a base of one slash", rootBase, ".//g", "https://[::1]//g"},

	{"a query", plainBase, "?y", "http://a.com/b/c/d?y"},
	{"a ? alone", plainBase, "?", "http://a.com/b/c/d?"},
	{"a ? alone, no query ahead", slashBase, "?", "http://a.com//b/c?"},
	{"a query, no query ahead", slashBase, "?y", "http://a.com//b/c?y"},
	{"a query, an empty one ahead", rootBase, "?y", "https://[::1]/?y"},
	{"a query, a base that ends with a slash", thickBase, "?y", "https://a.com:8443/b//c/?y"},
	{"a ? and a #", plainBase, "?#y", "http://a.com/b/c/d?"},
	{"a query and a #", plainBase, "?y#z?", "http://a.com/b/c/d?y"},
	{"two of ?", plainBase, "??", "http://a.com/b/c/d??"},
	{"a query with slashes", plainBase, "?//b.org/..", "http://a.com/b/c/d?//b.org/.."},
	{"a query with backslashes", plainBase, `?\\b.org`, "http://a.com/b/c/d?%5C%5Cb.org"},
	{"a query with a colon", plainBase, "?http://b.org", "http://a.com/b/c/d?http://b.org"},
	{"a query with blanks around", plainBase, " ? y ", "http://a.com/b/c/d?%20y"},
	{"a query with a blank ahead of the #", plainBase, "?y #z", "http://a.com/b/c/d?y%20"},
	{"a query with breaks", plainBase, "\n?\ty\r\nz", "http://a.com/b/c/d?yz"},
	{"a query with percents", plainBase, "?%79%2f%", "http://a.com/b/c/d?y%2F%25"},
	{"a query by a percent is a path", plainBase, "%3Fy", "http://a.com/b/c/%3Fy"},
}

// Texts that tell no address beside plainBase.
var notBesideTexts = []struct {
	why, s string
	fault  int
}{
	{"another scheme", "mailto:x", impl.UrlScheme},
	{"another scheme, nothing behind it", "g:", impl.UrlScheme},
	{"another scheme, slashes behind it", "ftp://b.org/", impl.UrlScheme},
	{"another scheme in great letters", "FTP://b.org/", impl.UrlScheme},
	{"another scheme with digits and marks", "a1+-.:x", impl.UrlScheme},
	{"a name and a port", "b.org:80/x", impl.UrlScheme},
	{"another scheme that begins as one", "httpx://b.org/", impl.UrlScheme},
	{"a scheme alone", "http:", impl.UrlScheme},
	{"a scheme and a path", "http:g", impl.UrlScheme},
	{"a scheme and one slash", "http:/g", impl.UrlScheme},
	{"the other scheme and one backslash", `https:\g`, impl.UrlScheme},
	{"a scheme and a query", "http:?y", impl.UrlScheme},
	{"a scheme and a #", "http:#//b.org", impl.UrlScheme},
	{"two schemes", "http:http://b.org/", impl.UrlScheme},
	{"a break ahead of the colon", "mail\nto\t:x", impl.UrlScheme},
	{"blanks around", "  mailto:x  ", impl.UrlScheme},

	{"a user, a scheme", "http://u@b.org/", impl.UrlUser},
	{"a user, two slashes", "//u@b.org/", impl.UrlUser},
	{"a user and a word, two backslashes", `\\u:p@b.org/`, impl.UrlUser},

	{"no host, a scheme", "http://", impl.UrlHost},
	{"no host, the other scheme", "https://?x", impl.UrlHost},
	{"two slashes alone", "//", impl.UrlHost},
	{"two backslashes alone", `\\`, impl.UrlHost},
	{"a slash and a backslash alone", `/\`, impl.UrlHost},
	{"a backslash and a slash alone", `\/`, impl.UrlHost},
	{"three slashes alone", "///", impl.UrlHost},
	{"two slashes and a query", "//?x", impl.UrlHost},
	{"two slashes and a #", "//#b.org", impl.UrlHost},
	{"two slashes around a break", "/\n/", impl.UrlHost},
	{"two slashes and a port", "//:80", impl.UrlHost},
	{"two slashes and a dot", "//.", impl.UrlHost},
	{"two slashes and a way back", "//../g", impl.UrlHost},
	{"a blank in the host, two slashes", "//a b", impl.UrlHost},
	{"a blank in the host, a scheme", "http://a b", impl.UrlHost},
	{"a line below, two slashes", "//a_b/", impl.UrlHost},
	{"a number too great, two slashes", "//1.2.3.256", impl.UrlHost},
	{"brackets that are wrong, two slashes", "//[1:2]/", impl.UrlHost},

	{"port 0, a scheme", "http://b.org:0/", impl.UrlPort},
	{"port 0, two slashes", "//b.org:0/", impl.UrlPort},
	{"a port too great, two slashes", "//b.org:65536", impl.UrlPort},
	{"a port of letters, two backslashes", `\\b.org:x\`, impl.UrlPort},
	{"two slashes, a scheme with a port that is none", "//http:x//b.org/", impl.UrlPort},

	{"one byte more than MaxUrl", strings.Repeat("a", 2001), impl.UrlLong},
	{"blanks alone, too many", strings.Repeat(" ", 2001), impl.UrlLong},
	{"too many behind a #", "#" + strings.Repeat("a", 2000), impl.UrlLong},
	{"breaks, too many", "g" + strings.Repeat("\n", 2000), impl.UrlLong},
	{"another scheme, too many", "mailto:" + strings.Repeat("a", 2000), impl.UrlLong},
	{"slashes, too many", strings.Repeat("/", 2001), impl.UrlLong},
	{"ways back, too many", strings.Repeat("../", 667), impl.UrlLong},
	{"very many bytes", strings.Repeat("../", 1<<18), impl.UrlLong},
	{"a path too long in percents", strings.Repeat("é", 400), impl.UrlLong},
	{"a path with a slash too long in percents", "/" + strings.Repeat("<", 700), impl.UrlLong},
	{"a query too long in percents", "?" + strings.Repeat("<", 700), impl.UrlLong},
	{"a whole address too long in percents", "http://b.org/" + strings.Repeat("<", 700), impl.UrlLong},
	{"two slashes, too long in percents", "//b.org/" + strings.Repeat("<", 700), impl.UrlLong},
}

// The shortest texts of addresses beside a base.
var relativeTexts = []struct{ why, base, u, text string }{
	{"the same origin", plainBase, "http://a.com/x", "/x"},
	{"the same origin, the same folder", plainBase, "http://a.com/b/c/e", "/b/c/e"},
	{"the same origin, a query", plainBase, "http://a.com/x?y", "/x?y"},
	{"the same origin, an empty query", plainBase, "http://a.com/?", "/?"},
	{"the same origin, one slash", plainBase, "http://a.com/", "/"},
	{"the same origin with a port", thickBase, "https://a.com:8443/x/", "/x/"},
	{"the same origin of eight", rootBase, "https://[::1]/x", "/x"},
	{"the same origin of four", fourBase, "http://1.2.3.4:443/x", "/x"},
	{"itself", plainBase, plainBase, "/b/c/d?q"},
	{"itself, one slash and an empty query", rootBase, rootBase, "/?"},
	{"the same path, no query", plainBase, "http://a.com/b/c/d", "/b/c/d"},
	{"the same path, another query", plainBase, "http://a.com/b/c/d?r", "/b/c/d?r"},
	{"itself, its path with two slashes ahead", slashBase, slashBase, "//a.com//b/c"},
	{"itself, its path two slashes alone", fourBase, fourBase, "//1.2.3.4:443//"},
	{"a path with two slashes ahead", plainBase, "http://a.com//x", "//a.com//x"},
	{"a path with three slashes ahead", plainBase, "http://a.com///", "//a.com///"},
	{"a path with two slashes and a query", plainBase, "http://a.com//?x", "//a.com//?x"},
	{"a path that names a host", plainBase, "http://a.com//b.org/", "//a.com//b.org/"},
	{"a path with two slashes further on", plainBase, "http://a.com/x//y", "/x//y"},
	{"a query with two slashes", plainBase, "http://a.com/?//", "/?//"},
	{"a path with percents of slashes", plainBase, "http://a.com/%2F%5C", "/%2F%5C"},
	{"a path with a colon", plainBase, "http://a.com/x:y", "/x:y"},
	{"a base with two slashes, a path without", slashBase, "http://a.com/x", "/x"},
	{"the same scheme", plainBase, "http://b.org/x?y", "//b.org/x?y"},
	{"the same scheme, one slash", thickBase, "https://b.org/", "//b.org/"},
	{"the same scheme, another port", plainBase, "http://a.com:81/", "//a.com:81/"},
	{"the same scheme, no port", thickBase, "https://a.com/b//c/", "//a.com/b//c/"},
	{"the same scheme, a host more", plainBase, "http://x.a.com/", "//x.a.com/"},
	{"the same scheme, an address of eight", plainBase, "http://[::2]:90/", "//[::2]:90/"},
	{"the same scheme, a path with two slashes", plainBase, "http://b.org//x", "//b.org//x"},
	{"another scheme", plainBase, "https://a.com/b/c/d?q", "https://a.com/b/c/d?q"},
	{"another scheme, the other way round", thickBase, "http://a.com:8443/", "http://a.com:8443/"},
	{"another scheme, the same port", plainBase, "https://a.com:80/", "https://a.com:80/"},
	{"another scheme and host", plainBase, "https://b.org/", "https://b.org/"},
	{"another scheme, a path with two slashes", plainBase, "https://a.com//", "https://a.com//"},
}

// The forms of chapter 9, told by patterns.
var (
	schemeForm     = regexp.MustCompile(`\A([a-zA-Z][a-zA-Z0-9+.\-]*):`)
	twoSlashesForm = regexp.MustCompile(`\A[/\\][/\\]`)
	besideForm     = regexp.MustCompile(`(?s)\A([^?]*)(\?.*)?\z`)
)

func wantScheme(s string) string {
	if pieces := schemeForm.FindStringSubmatch(s); pieces != nil {
		return wantLower(pieces[1])
	}
	return ""
}

// wantResolve is chapter 9's Resolve, by patterns and by the other chapters as
// these tests tell them.
func wantResolve(base impl.Url, s string) (impl.Url, int) {
	if wantUrlText(base) == "" {
		return impl.Url{}, 4
	}
	if len(s) > 2000 {
		return impl.Url{}, 1
	}
	s = urlPassed.ReplaceAllString(urlBlanks.ReplaceAllString(s, ""), "")
	if wantScheme(s) != "" {
		return wantUrl(s)
	}
	if twoSlashesForm.MatchString(s) {
		return wantUrl([]string{"http:", "https:"}[base.Scheme-1] + s)
	}
	u := base
	pieces := besideForm.FindStringSubmatch(s)
	if path := strings.Join(strings.Split(pieces[1], `\`), "/"); path != "" {
		if path[0] != '/' {
			path = wantUpTo(base.Path) + path
		}
		u.Path = wantDropped(wantPlainly(path, impl.InPath))
		u.HasQuery, u.Query = false, ""
	}
	if pieces[2] != "" {
		u.HasQuery, u.Query = true, wantPlainly(pieces[2][1:], impl.InQuery)
	}
	if len(wantUrlText(u)) > 2000 {
		return impl.Url{}, 1
	}
	return u, 0
}

// wantRelative goes by what the two have in common, not by what comes back.
func wantRelative(base, u impl.Url) string {
	text := wantUrlText(u)
	if wantUrlText(base) == "" || text == "" || len(text) > 2000 {
		return ""
	}
	switch {
	case base.Scheme != u.Scheme:
		return text
	case base.Host != u.Host || base.Port != u.Port || strings.Index(u.Path, "//") == 0:
		return "//" + strings.SplitN(text, "//", 2)[1]
	}
	return wantRest(u)
}

func checkScheme(t *testing.T, s string) {
	t.Helper()
	if scheme, want := impl.SchemeOf(s), wantScheme(s); scheme != want {
		t.Fatalf("SchemeOf(%q) = %q; want %q", s, scheme, want)
	}
}

// checkRelative holds the text of an address beside another one against a
// telling of its own, and against promise 9.
func checkRelative(t *testing.T, base, u impl.Url) {
	t.Helper()
	text, want := impl.Relative(base, u), wantRelative(base, u)
	if text != want {
		t.Fatalf("Relative(%+v, %+v) = %q; want %q", base, u, text, want)
	}
	if want == "" {
		return
	}
	if back, fault := impl.Resolve(base, text); back != u || fault != impl.UrlGood {
		t.Fatalf("Resolve(%+v, %q) = %+v, %d; want %+v", base, text, back, fault, u)
	}
}

func checkBeside(t *testing.T, base impl.Url, s string) {
	t.Helper()
	want, wantFault := wantResolve(base, s)
	u, fault := impl.Resolve(base, s)
	if u != want || fault != wantFault {
		t.Fatalf("Resolve(%+v, %q) = %+v, %d; want %+v, %d", base, s, u, fault, want, wantFault)
	}
	if impl.UrlOk(u) != (fault == impl.UrlGood) {
		t.Fatalf("Resolve(%+v, %q) = %+v, %d, and it is UrlOk: %v", base, s, u, fault, impl.UrlOk(u))
	}
	checkRelative(t, base, u)
	checkRelative(t, u, base)
}

// checkNotBeside holds the fault of a text, and that nothing stands beside it.
func checkNotBeside(t *testing.T, base impl.Url, s string, fault int) {
	t.Helper()
	if u, got := impl.Resolve(base, s); u != (impl.Url{}) || got != fault {
		t.Errorf("Resolve(%.80q) of %d bytes, %.80q: %+v, %d; want the zero one and %d", impl.UrlText(base), len(s), s, u, got, fault)
	}
	checkBeside(t, base, s)
}

// baseOf reads the text of a base, which is right.
func baseOf(t *testing.T, text string) impl.Url {
	t.Helper()
	u, fault := wantUrl(text)
	if fault != 0 || wantUrlText(u) != text {
		t.Fatalf("%q is no base: %d", text, fault)
	}
	return u
}

func bases(t *testing.T) []impl.Url {
	t.Helper()
	all := []impl.Url{}
	for _, text := range baseTexts {
		all = append(all, baseOf(t, text))
	}
	return all
}

func TestSchemeTexts(t *testing.T) {
	for _, x := range schemeTexts {
		if scheme := impl.SchemeOf(x.s); scheme != x.scheme {
			t.Errorf("%s: SchemeOf(%.80q) = %.80q; want %.80q", x.why, x.s, scheme, x.scheme)
		}
		checkScheme(t, x.s)
	}
	for _, x := range noSchemeTexts {
		if scheme := impl.SchemeOf(x.s); scheme != "" {
			t.Errorf("%s: SchemeOf(%q) = %q; want nothing", x.why, x.s, scheme)
		}
		checkScheme(t, x.s)
	}
}

func TestSchemeOfEveryByte(t *testing.T) {
	const letters = "abcdefghijklmnopqrstuvwxyzABCDEFGHIJKLMNOPQRSTUVWXYZ"
	for c := range 256 {
		b := oneByte(c)
		first := strings.Contains(letters, b)
		behind := first || strings.Contains("0123456789+-.", b)
		if got := impl.SchemeOf(b+":") != ""; got != first {
			t.Errorf("SchemeOf of byte %d and a colon: %v", c, got)
		}
		if got := impl.SchemeOf("a"+b+":x") != ""; got != behind && b != ":" {
			t.Errorf("SchemeOf of byte %d behind a letter: %v", c, got)
		}
		for _, s := range []string{b, b + b, "a" + b, b + "a:", "a" + b + "b:", "a:" + b, "ab" + b + b + ":", "1" + b + ":", b + ":" + b} {
			checkScheme(t, s)
		}
	}
}

func TestSchemeOfEveryShortText(t *testing.T) {
	eachText("aZ0+-./:\x80", 5, func(s string) { checkScheme(t, s) })
}

func TestBesideTexts(t *testing.T) {
	for _, x := range besideTexts {
		b := baseOf(t, x.base)
		u, fault := impl.Resolve(b, x.s)
		if text := impl.UrlText(u); text != x.text || fault != impl.UrlGood {
			t.Errorf("%s: Resolve(%q, %.80q) = %q, %d; want %q", x.why, x.base, x.s, text, fault, x.text)
		}
		for _, b := range bases(t) {
			checkBeside(t, b, x.s)
		}
	}
}

// The ordinary and the odd texts of RFC 3986's chapter 5.4, where the document
// tells the same.
func TestBesideTextsOfTheRfc(t *testing.T) {
	b := baseOf(t, "http://a/b/c/d;p?q")
	for s, text := range map[string]string{
		"g": "/b/c/g", "./g": "/b/c/g", "g/": "/b/c/g/", "/g": "/g", "?y": "/b/c/d;p?y", "g?y": "/b/c/g?y",
		"#s": "/b/c/d;p?q", "g#s": "/b/c/g", "g?y#s": "/b/c/g?y", ";x": "/b/c/;x", "g;x": "/b/c/g;x",
		"g;x?y#s": "/b/c/g;x?y", "": "/b/c/d;p?q", ".": "/b/c/", "./": "/b/c/", "..": "/b/", "../": "/b/",
		"../g": "/b/g", "../..": "/", "../../": "/", "../../g": "/g", "../../../g": "/g", "../../../../g": "/g",
		"/./g": "/g", "/../g": "/g", "g.": "/b/c/g.", ".g": "/b/c/.g", "g..": "/b/c/g..", "..g": "/b/c/..g",
		"./../g": "/b/g", "./g/.": "/b/c/g/", "g/./h": "/b/c/g/h", "g/../h": "/b/c/h", "g;x=1/./y": "/b/c/g;x=1/y",
		"g;x=1/../y": "/b/c/y", "g?y/./x": "/b/c/g?y/./x", "g?y/../x": "/b/c/g?y/../x", "g#s/./x": "/b/c/g", "g#s/../x": "/b/c/g",
	} {
		if u, fault := impl.Resolve(b, s); impl.UrlText(u) != "http://a"+text || fault != impl.UrlGood {
			t.Errorf("Resolve(%q) = %q, %d; want %q", s, impl.UrlText(u), fault, "http://a"+text)
		}
		checkBeside(t, b, s)
	}
	checkNotBeside(t, b, "g:h", impl.UrlScheme)
	checkNotBeside(t, b, "http:g", impl.UrlScheme)
	if u, _ := impl.Resolve(b, "//g"); impl.UrlText(u) != "http://g/" {
		t.Errorf("Resolve(//g) = %+v", u)
	}
}

func TestNotBesideTexts(t *testing.T) {
	for _, x := range notBesideTexts {
		t.Run(x.why, func(t *testing.T) {
			for _, b := range bases(t) {
				checkNotBeside(t, b, x.s, x.fault)
			}
		})
	}
}

// Every text of chapter 8's, whole and cut behind its scheme.
func TestBesideWholeTexts(t *testing.T) {
	texts := []string{}
	for _, x := range rightUrls {
		texts = append(texts, x.origin+x.rest)
	}
	for _, x := range otherUrlTexts {
		texts = append(texts, x.s)
	}
	for _, x := range noUrlTexts {
		if len(x.s) < 5000 {
			texts = append(texts, x.s)
		}
	}
	for _, b := range bases(t) {
		for _, s := range texts {
			checkBeside(t, b, s)
			if _, behind, found := strings.Cut(s, ":"); found {
				checkBeside(t, b, behind)
				checkBeside(t, b, strings.TrimLeft(behind, `/\`))
			}
		}
	}
}

// What is told of a whole text is told behind its scheme, too, where that is
// the base's. (But for blanks right ahead of a #, which are at the end of what
// is read as a whole address.)
func TestTwoSlashesAreTheSchemesOwn(t *testing.T) {
	for _, x := range noUrlTexts {
		behind, found := strings.CutPrefix(x.s, "http:")
		if !found || !twoSlashesForm.MatchString(behind) || x.fault == impl.UrlLong || strings.Contains(behind, " #") {
			continue
		}
		checkNotBeside(t, baseOf(t, plainBase), x.s, x.fault)
		checkNotBeside(t, baseOf(t, thickBase), x.s, x.fault)
		checkNotBeside(t, baseOf(t, plainBase), behind, x.fault)
		checkNotBeside(t, baseOf(t, thickBase), behind, x.fault)
	}
	for _, x := range rightUrls {
		text := x.origin + x.rest
		same, other := baseOf(t, plainBase), baseOf(t, thickBase)
		if x.u.Scheme == impl.SchemeHttps {
			same, other = other, same
		}
		if u, fault := impl.Resolve(same, text[strings.Index(text, "//"):]); u != x.u || fault != impl.UrlGood {
			t.Errorf("%s: behind its scheme it is %+v, %d", x.why, u, fault)
		}
		if u, fault := impl.Resolve(other, text); u != x.u || fault != impl.UrlGood {
			t.Errorf("%s: beside another scheme's it is %+v, %d", x.why, u, fault)
		}
		if u, fault := impl.Resolve(other, text[strings.Index(text, "//"):]); u.Scheme != other.Scheme || fault != impl.UrlGood {
			t.Errorf("%s: behind another scheme it is %+v, %d", x.why, u, fault)
		}
	}
}

func TestSlashesFirst(t *testing.T) {
	eachText(`/\`, 6, func(row string) {
		for _, b := range bases(t) {
			whole := impl.UrlText(b)
			scheme := whole[:strings.Index(whole, "//")]
			if len(row) > 1 {
				if u, fault := impl.Resolve(b, row+"c.net/x"); impl.UrlText(u) != scheme+"//c.net/x" || fault != impl.UrlGood {
					t.Errorf("Resolve(%q, %q) = %+v, %d", whole, row+"c.net/x", u, fault)
				}
				checkNotBeside(t, b, row, impl.UrlHost)
			}
			if len(row) == 1 {
				if u, fault := impl.Resolve(b, row+"c.net/x"); impl.UrlText(u) != impl.OriginOf(b)+"/c.net/x" || fault != impl.UrlGood {
					t.Errorf("Resolve(%q, %q) = %+v, %d", whole, row+"c.net/x", u, fault)
				}
			}
			for _, s := range []string{row, row + "c.net/x", "x" + row + "y", "." + row + "y", ".." + row, "?" + row, "#" + row, row + "?x", row + "..", row + "." + row + "y"} {
				checkBeside(t, b, s)
			}
		}
	})
}

// A break is passed over wherever it stands, and blanks around.
func TestBreaksWithinAndBlanksAround(t *testing.T) {
	b := baseOf(t, plainBase)
	for _, s := range []string{"http://b.org:90/x?y", "HTTPS:\\\\b.org", "//b.org/x", `\/b.org`, "/x/../y", "../x?y", "x%20y", "?y", "x", "mailto:x", "//u@b.org", "//", "http://b.org:x"} {
		want, wantFault := impl.Resolve(b, s)
		check := func(s string) {
			if u, fault := impl.Resolve(b, s); u != want || fault != wantFault {
				t.Errorf("Resolve(%q) = %+v, %d; want %+v, %d", s, u, fault, want, wantFault)
			}
			checkBeside(t, b, s)
		}
		for at := range len(s) + 1 {
			for _, breaks := range []string{"\t", "\n", "\r", "\r\n\t"} {
				check(s[:at] + breaks + s[at:])
			}
		}
		for _, blanks := range []string{" ", "\t ", " \r\n "} {
			check(blanks + s)
			check(s + blanks)
			check(blanks + s + blanks)
			check(blanks + s + "#" + blanks)
		}
		for _, behind := range []string{"#", "##", "#x", "#?x", "#//b.org", "#:", "#\xff\x00", "#" + strings.Repeat("x", 1900)} {
			check(s + behind)
		}
	}
}

// A base that is not right is told first, whatever the text is.
func TestBesideWrongBases(t *testing.T) {
	texts := []string{"", " ", "#", "?", "?y", "g", "/", "/g", "..", "//", "//b.org", "//u@b.org", "http://b.org/", "https://b.org/", "http://u@b.org/", "http://b.org:0/", "mailto:x", "http://", strings.Repeat("a", 2000), strings.Repeat("a", 2001), strings.Repeat("<", 2000)}
	right := baseOf(t, plainBase)
	for _, x := range wrongUrls {
		for _, s := range texts {
			if u, fault := impl.Resolve(x.u, s); u != (impl.Url{}) || fault != impl.UrlHost {
				t.Errorf("%s: Resolve(%+v, %.80q) = %+v, %d", x.why, x.u, s, u, fault)
			}
			checkBeside(t, x.u, s)
		}
		for _, text := range []string{impl.Relative(x.u, right), impl.Relative(right, x.u), impl.Relative(x.u, x.u), impl.Relative(x.u, impl.Url{}), impl.Relative(impl.Url{}, x.u)} {
			if text != "" {
				t.Errorf("%s: Relative answers %q", x.why, text)
			}
		}
		for _, y := range rightUrls {
			checkRelative(t, x.u, y.u)
			checkRelative(t, y.u, x.u)
		}
	}
}

// Each piece of a text right or wrong, in all ways: of the wrong ones the one
// that the document tells first counts.
func TestWhichFaultBesideComesFirst(t *testing.T) {
	for wrong := range 64 {
		b, long, head, user, port, host := baseOf(t, plainBase), "", "//", "", "90", "b.org"
		fault := impl.UrlGood
		if wrong&16 != 0 {
			host, fault = "a_b", impl.UrlHost
		}
		if wrong&8 != 0 {
			port, fault = "0", impl.UrlPort
		}
		if wrong&4 != 0 {
			user, fault = "u@", impl.UrlUser
		}
		if wrong&2 != 0 {
			head, fault = "ftp://", impl.UrlScheme
		}
		if wrong&1 != 0 {
			long, fault = strings.Repeat("a", impl.MaxUrl), impl.UrlLong
		}
		if wrong&32 != 0 {
			b, fault = httpUrl(nameA, 80, ""), impl.UrlHost
		}
		s := head + user + host + ":" + port + "/" + long
		if fault != impl.UrlGood {
			checkNotBeside(t, b, s, fault)
		}
		checkBeside(t, b, s)
		// A text that only percents would make too long is told so last.
		if fault != impl.UrlLong {
			checkNotBeside(t, b, head+user+host+":"+port+"/"+strings.Repeat(" ", 900)+"a", max(fault, impl.UrlLong))
		}
	}
}

func TestBesideTextsOfAboutMaxUrlBytes(t *testing.T) {
	b := baseOf(t, plainBase)
	for _, x := range []struct{ why, ahead, fill, behind, text string }{
		{"blanks alone", "", " ", "", plainBase},
		{"behind a #", "#", "a", "", plainBase},
		{"blanks ahead of a path", "", " ", "g", "http://a.com/b/c/g"},
		{"blanks behind a query", "?y", "\n", "", "http://a.com/b/c/d?y"},
		{"breaks within a path", "g", "\t", "h", "http://a.com/b/c/gh"},
		{"a path and what is behind a #", "/g#", "a", "", "http://a.com/g"},
		{"blanks around a whole address", " ", "\r", "http://b.org/", "http://b.org/"},
		{"slashes of a whole address", "http:", "/", "b.org", "http://b.org/"},
		{"breaks between two slashes", "/", "\n", "/b.org", "http://b.org/"},
		{"blanks ahead of two slashes", "", " ", "//b.org", "http://b.org/"},
	} {
		room := impl.MaxUrl - len(x.ahead) - len(x.behind)
		for more := -3; more <= 3; more++ {
			s := x.ahead + strings.Repeat(x.fill, room+more) + x.behind
			if more > 0 {
				checkNotBeside(t, b, s, impl.UrlLong)
			} else if u, fault := impl.Resolve(b, s); impl.UrlText(u) != x.text || fault != impl.UrlGood {
				t.Errorf("%s: %d bytes: %q, %d; want %q", x.why, len(s), impl.UrlText(u), fault, x.text)
			}
			checkBeside(t, b, s)
		}
	}
}

// Behind two slashes ParseUrl reads the base's scheme, too, so that a text may
// be too long with it that is short enough without.
func TestTwoSlashesWithTheirSchemeOfAboutMaxUrlBytes(t *testing.T) {
	for _, x := range []struct {
		base string
		most int
	}{{plainBase, 1995}, {thickBase, 1994}} {
		for many := 1990; many <= 2003; many++ {
			for _, behind := range []string{strings.Repeat("a", many-8), strings.Repeat("../", (many-8)/3) + strings.Repeat("g", (many-8)%3)} {
				b, s := baseOf(t, x.base), "//b.org/"+behind
				if len(s) > x.most {
					checkNotBeside(t, b, s, impl.UrlLong)
				} else if u, fault := impl.Resolve(b, s); u.Host.Name != "b.org" || fault != impl.UrlGood {
					t.Errorf("%d bytes: %+v, %d", len(s), u, fault)
				}
				checkBeside(t, b, s)
			}
		}
	}
}

// Texts that are short enough, but what comes of them may not be.
func TestWhatComesBesideOfAboutMaxUrlBytes(t *testing.T) {
	longPath := "http://a.com/" + strings.Repeat("p", 1500) + "/"
	longQuery := "http://a.com/b?" + strings.Repeat("q", 1900)
	for _, x := range []struct {
		why, base, ahead, behind string
		grown                    int
	}{
		{"a path", plainBase, "g", "", len("http://a.com/b/c/g")},
		{"a path with a slash ahead", plainBase, "/", "", len("http://a.com/")},
		{"a query", plainBase, "?", "", len("http://a.com/b/c/d?")},
		{"a path and a query", plainBase, "g?", "", len("http://a.com/b/c/g?")},
		{"a path ahead of a #", plainBase, "g", "#abc", len("http://a.com/b/c/g")},
		{"a path behind ways back", plainBase, "../../", "", len("http://a.com/")},
		{"a path beside a long one", longPath, "", "", len(longPath)},
		{"a path beside a long one's file", longPath + "x", "", "", len(longPath)},
		{"a query beside a long path", longPath, "?", "", len(longPath) + 1},
		{"a path beside a long query", longQuery, "g", "", len("http://a.com/g")},
		{"a query beside a long one", longQuery, "?", "", len("http://a.com/b?")},
		{"a whole address", plainBase, "http://c.net/", "", len("http://c.net/")},
		{"two slashes", thickBase, "//c.net/", "", len("https://c.net/")},
	} {
		for most := 1990; most <= 2010; most++ {
			thrice, once := (most-x.grown)/3, (most-x.grown)%3
			s := x.ahead + strings.Repeat("<", thrice) + strings.Repeat("a", once) + x.behind
			u, fault := impl.Resolve(baseOf(t, x.base), s)
			if most > 2000 {
				checkNotBeside(t, baseOf(t, x.base), s, impl.UrlLong)
			} else if text := impl.UrlText(u); fault != impl.UrlGood || len(text) != most {
				t.Errorf("%s: Resolve of %d bytes: %d, a text of %d bytes; want %d", x.why, len(s), fault, len(text), most)
			}
			checkBeside(t, baseOf(t, x.base), s)
		}
	}
}

// UrlOk knows no length: a base may be too long to be read, and is told so
// where it comes of a text itself.
func TestBasesThatAreTooLongToBeRead(t *testing.T) {
	for _, many := range []int{1999, 2000, 2001, 2002, 5000} {
		for _, b := range []impl.Url{
			httpUrl(nameA, 80, "/"+strings.Repeat("p", many-13)),
			httpUrl(nameA, 80, "/"+strings.Repeat("p", many-14)+"/"),
			withQuery(httpUrl(nameA, 80, "/"), strings.Repeat("q", many-14)),
			httpUrl(nameA, 80, strings.Repeat("/", many-12)),
		} {
			if len(impl.UrlText(b)) != many {
				t.Fatalf("the base has %d bytes, not %d", len(impl.UrlText(b)), many)
			}
			for _, s := range []string{"", " ", "#", "#x"} {
				if many > 2000 {
					checkNotBeside(t, b, s, impl.UrlLong)
				} else if u, fault := impl.Resolve(b, s); u != b || fault != impl.UrlGood {
					t.Errorf("a base of %d bytes comes as %+v, %d", many, u, fault)
				}
			}
			for _, s := range []string{"/g", "//b.org/", "http://b.org", "../../g", "g", "?", "?y", "?" + strings.Repeat("q", 100), strings.Repeat("../", 600)} {
				checkBeside(t, b, s)
			}
			if text := impl.Relative(b, b); (text == "") != (many > 2000) {
				t.Errorf("a base of %d bytes beside itself: %.80q", many, text)
			}
			if text := impl.Relative(b, baseOf(t, plainBase)); text != "/b/c/d?q" {
				t.Errorf("beside a base of %d bytes: %q", many, text)
			}
			for _, y := range rightUrls {
				checkRelative(t, b, y.u)
				checkRelative(t, y.u, b)
			}
		}
	}
}

func TestRelativeTexts(t *testing.T) {
	for _, x := range relativeTexts {
		b, u := baseOf(t, x.base), baseOf(t, x.u)
		if text := impl.Relative(b, u); text != x.text {
			t.Errorf("%s: Relative(%q, %q) = %q; want %q", x.why, x.base, x.u, text, x.text)
		}
		if back, fault := impl.Resolve(b, x.text); back != u || fault != impl.UrlGood {
			t.Errorf("%s: Resolve(%q, %q) = %+v, %d; want %+v", x.why, x.base, x.text, back, fault, u)
		}
		checkRelative(t, b, u)
		checkRelative(t, u, b)
	}
}

// Promise 9, of any two addresses.
func TestWhatIsRelativeComesBack(t *testing.T) {
	all := bases(t)
	for _, x := range rightUrls {
		all = append(all, x.u)
		for _, b := range bases(t) {
			b.Path, b.HasQuery, b.Query = x.u.Path, x.u.HasQuery, x.u.Query
			all = append(all, b)
		}
	}
	for _, b := range all {
		for _, u := range all {
			text := impl.Relative(b, u)
			if back, fault := impl.Resolve(b, text); text == "" || back != u || fault != impl.UrlGood {
				t.Fatalf("Relative(%+v, %+v) = %q, which comes back as %+v, %d", b, u, text, back, fault)
			}
			checkRelative(t, b, u)
		}
	}
}

// None of the texts that the document names is shorter and comes back, and no
// two of them are as short as one another.
func TestRelativeIsTheShortest(t *testing.T) {
	for _, b := range bases(t) {
		for _, x := range rightUrls {
			u := x.u
			u.Host, u.Port = b.Host, b.Port
			text := impl.UrlText(u)
			got := impl.Relative(b, u)
			lengths := []int{}
			for _, s := range []string{text, text[strings.Index(text, "//"):], impl.PathQuery(u)} {
				back, fault := impl.Resolve(b, s)
				if len(s) < len(got) && back == u && fault == impl.UrlGood {
					t.Errorf("Relative(%+v, %+v) = %q; %q is shorter", b, u, got, s)
				}
				if slices.Contains(lengths, len(s)) {
					t.Errorf("two texts of %+v have %d bytes", u, len(s))
				}
				lengths = append(lengths, len(s))
			}
		}
	}
}

func TestRelativeOfAboutMaxUrlBytes(t *testing.T) {
	for many := 1990; many <= 2010; many++ {
		for _, u := range []impl.Url{
			httpUrl(nameA, 80, "/"+strings.Repeat("p", many-13)),
			httpUrl(nameA, 80, "//"+strings.Repeat("p", many-14)),
			withQuery(httpUrl(nameA, 80, "/"), strings.Repeat("q", many-14)),
			httpsUrl(nameA, 443, "/"+strings.Repeat("p", many-14)),
			httpsUrl(nameA, 8443, "/"+strings.Repeat("p", many-19)),
			httpUrl(eightOne, 80, "/"+strings.Repeat("p", many-13)),
		} {
			for _, b := range bases(t) {
				text := impl.Relative(b, u)
				if (text == "") != (many > 2000) {
					t.Errorf("Relative of an address of %d bytes: %d bytes", many, len(text))
				}
				checkRelative(t, b, u)
			}
		}
	}
}

func TestBesideEveryByte(t *testing.T) {
	for c := range 256 {
		for _, b := range []string{oneByte(c), wantPercent(c, smallDigits)} {
			for _, whole := range []string{"https://c.net:90/p?q", "//c.net/p", "/p/../q?r", "p/q?r"} {
				for at := range len(whole) + 1 {
					checkBeside(t, baseOf(t, plainBase), whole[:at]+b+whole[at:])
					checkBeside(t, baseOf(t, slashBase), whole[:at]+b)
				}
			}
			for _, s := range []string{b, b + b, b + "/", "/" + b, "." + b, b + ".", "?" + b, b + "?", "#" + b, b + "#", b + ":", ":" + b, "a" + b + "://c.net"} {
				for _, b := range bases(t) {
					checkBeside(t, b, s)
				}
			}
		}
	}
}

func TestBesideEveryShortText(t *testing.T) {
	plain, four := baseOf(t, plainBase), baseOf(t, fourBase)
	eachText(`:/\?#a.`, 5, func(s string) {
		checkBeside(t, plain, s)
		checkBeside(t, four, s)
	})
	eachText("./\\%2e?", 5, func(s string) { checkBeside(t, plain, s) })
	eachText(" \n#/?a:", 5, func(s string) { checkBeside(t, four, s) })
}

func TestBesideManyTexts(t *testing.T) {
	turn := rand.New(rand.NewSource(12))
	heads := []string{"", "", "", "http:", "https:", "HTTP:", "mailto:", "//", "\\\\", "/", "\\", "///", " ", "\n", "?", "#", ".", ".."}
	pieces := []string{"a", "b.org", "1.2.3.4", "[::1]", ":", ":80", ":0", "/", "/", "//", "\\", "/..", "/.", "../", "?", "#", "@", "%41", "%2e", "%2f", "%", "é", " ", "\t", "\r\n", "\xff", "\x00", "="}
	all := bases(t)
	for _, x := range rightUrls {
		all = append(all, x.u)
	}
	for range 40000 {
		s := heads[turn.Intn(len(heads))]
		for range turn.Intn(8) {
			s += pieces[turn.Intn(len(pieces))]
		}
		checkBeside(t, all[turn.Intn(len(all))], s)
		checkScheme(t, s)
	}
}

func TestBesideManyBytes(t *testing.T) {
	turn := rand.New(rand.NewSource(13))
	all := bases(t)
	for range 10000 {
		b := make([]byte, turn.Intn(40))
		for i := range b {
			b[i] = byte(turn.Intn(256))
		}
		checkBeside(t, all[turn.Intn(len(all))], string(b))
		checkBeside(t, all[turn.Intn(len(all))], "//"+string(b))
		checkScheme(t, string(b)+":")
	}
}

// shares tells whether a text of an address lies in the memory of another text.
func shares(u impl.Url, in string) bool {
	for _, s := range []string{u.Host.Name, u.Path, u.Query} {
		if s != "" && in != "" && lies(s, in) {
			return true
		}
	}
	return false
}

func TestBesideIsNewMemory(t *testing.T) {
	for _, s := range []string{"", "#", "?", "?y", "g", "/g", "/g/h?y", "..", "//b.org/g?y", "http://b.org/g?y", "../../gh"} {
		s = strings.Clone(s)
		b, _ := impl.ParseUrl(plainBase)
		u, fault := impl.Resolve(b, s)
		if fault != impl.UrlGood {
			t.Fatalf("Resolve(%q): %d", s, fault)
		}
		for _, in := range []string{s, b.Host.Name, b.Path, b.Query} {
			if shares(u, in) {
				t.Errorf("what %q tells lies in its arguments' memory: %q", s, in)
			}
		}
		for _, of := range []impl.Url{b, u} {
			for _, text := range []string{impl.Relative(b, of), impl.Relative(of, u)} {
				if shares(b, text) || shares(u, text) || lies(text, of.Path) || lies(text, b.Path) {
					t.Errorf("%q lies in its arguments' memory", text)
				}
			}
		}
	}
	s := strings.Clone("http:")
	if scheme := impl.SchemeOf(s); lies(scheme, s) {
		t.Errorf("the scheme of %q lies in its argument's memory", s)
	}
}

func TestBesideFaultsLeaveNothingBehind(t *testing.T) {
	b, want := baseOf(t, plainBase), baseOf(t, "http://a.com/b/c/g?y")
	for _, x := range notBesideTexts {
		impl.Resolve(b, x.s)
		impl.Resolve(impl.Url{}, x.s)
		impl.Relative(b, impl.Url{})
		if u, fault := impl.Resolve(b, "g?y"); u != want || fault != impl.UrlGood {
			t.Fatalf("%s: behind it Resolve answers %+v, %d", x.why, u, fault)
		}
		if text := impl.Relative(b, want); text != "/b/c/g?y" {
			t.Fatalf("%s: behind it Relative answers %q", x.why, text)
		}
	}
}
