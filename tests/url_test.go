package tests

import (
	"math"
	"math/rand"
	"regexp"
	"strconv"
	"strings"
	"testing"

	"loop.example/g00191/impl"
)

func httpUrl(host impl.Host, port int, path string) impl.Url {
	return impl.Url{Scheme: impl.SchemeHttp, Host: host, Port: port, Path: path}
}

func httpsUrl(host impl.Host, port int, path string) impl.Url {
	return impl.Url{Scheme: impl.SchemeHttps, Host: host, Port: port, Path: path}
}

func withQuery(u impl.Url, query string) impl.Url {
	u.HasQuery, u.Query = true, query
	return u
}

var (
	nameA    = nameHost("a.com")
	eightOne = sixHost([8]int{7: 1})
)

// Addresses, their origins, and the rest of their one text.
var rightUrls = []struct {
	why          string
	u            impl.Url
	origin, rest string
}{
	{"a name", httpUrl(nameA, 80, "/"), "http://a.com", "/"},
	{"a name, the other scheme", httpsUrl(nameA, 443, "/"), "https://a.com", "/"},
	{"a name of one byte", httpUrl(nameHost("a"), 80, "/"), "http://a", "/"},
	{"a name of MaxName bytes", httpUrl(nameHost(mostName), 80, "/"), "http://" + mostName, "/"},
	{"a coded name", httpsUrl(nameHost("xn--bcher-kva.de"), 443, "/"), "https://xn--bcher-kva.de", "/"},
	{"a name that is a scheme's", httpUrl(nameHost("http"), 80, "/"), "http://http", "/"},
	{"an address of four", httpUrl(fourHost(16909060), 80, "/a"), "http://1.2.3.4", "/a"},
	{"an address of four with a port", httpUrl(fourHost(0), 1, "/"), "http://0.0.0.0:1", "/"},
	{"an address of four, the other scheme's port", httpUrl(fourHost(ip4Last), 443, "/"), "http://255.255.255.255:443", "/"},
	{"an address of eight", httpUrl(eightOne, 80, "/"), "http://[::1]", "/"},
	{"an address of eight with a port", httpUrl(eightOne, 8080, "/"), "http://[::1]:8080", "/"},
	{"an address of eight, noughts, with the last port", httpsUrl(sixHost([8]int{}), 65535, "/"), "https://[::]:65535", "/"},
	{"an address of eight with a query", withQuery(httpsUrl(sixHost([8]int{1, 2, 3, 4, 5, 6, 7, 8}), 443, "/"), "x"), "https://[1:2:3:4:5:6:7:8]", "/?x"},
	{"the first port", httpUrl(nameA, 1, "/"), "http://a.com:1", "/"},
	{"the last port", httpUrl(nameA, 65535, "/"), "http://a.com:65535", "/"},
	{"the port beneath its own", httpUrl(nameA, 79, "/"), "http://a.com:79", "/"},
	{"the port above its own", httpUrl(nameA, 81, "/"), "http://a.com:81", "/"},
	{"the other scheme's port", httpUrl(nameA, 443, "/"), "http://a.com:443", "/"},
	{"the other scheme's port, the other way round", httpsUrl(nameA, 80, "/"), "https://a.com:80", "/"},
	{"a path", httpUrl(nameA, 80, "/a/b"), "http://a.com", "/a/b"},
	{"a path with an empty end", httpUrl(nameA, 80, "/a/"), "http://a.com", "/a/"},
	{"a path of two slashes", httpUrl(nameA, 80, "//"), "http://a.com", "//"},
	{"a path that looks like an authority", httpUrl(nameA, 80, "//b.com:90/"), "http://a.com", "//b.com:90/"},
	{"a path that looks like an address", httpUrl(nameA, 80, "/http://b.com/"), "http://a.com", "/http://b.com/"},
	{"a path of the origin", httpUrl(nameHost("a"), 80, "/a"), "http://a", "/a"},
	{"a path with percents", httpUrl(nameA, 80, "/%2F%20%00%FF%25"), "http://a.com", "/%2F%20%00%FF%25"},
	{"a path with a percent of ?", httpUrl(nameA, 80, "/%3F"), "http://a.com", "/%3F"},
	{"a path with a percent of #", httpUrl(nameA, 80, "/%23"), "http://a.com", "/%23"},
	{"a path with a percent of a backslash", httpUrl(nameA, 80, "/%5C"), "http://a.com", "/%5C"},
	{"a path with all marks", httpUrl(nameA, 80, "/-._~!$&'()*+,;=:@"), "http://a.com", "/-._~!$&'()*+,;=:@"},
	{"a path of three dots", httpUrl(nameA, 80, "/..."), "http://a.com", "/..."},
	{"a path with dots that are no ways", httpUrl(nameA, 80, "/.a/a./..a/a../a.b"), "http://a.com", "/.a/a./..a/a../a.b"},
	{"a query", withQuery(httpUrl(nameA, 80, "/"), "x=1&y=2"), "http://a.com", "/?x=1&y=2"},
	{"an empty query", withQuery(httpUrl(nameA, 80, "/"), ""), "http://a.com", "/?"},
	{"an empty query behind a path", withQuery(httpsUrl(nameA, 8443, "/x/y"), ""), "https://a.com:8443", "/x/y?"},
	{"a query with ?", withQuery(httpUrl(nameA, 80, "/"), "??"), "http://a.com", "/???"},
	{"a query with slashes and dots", withQuery(httpUrl(nameA, 80, "/a"), "/../b/./"), "http://a.com", "/a?/../b/./"},
	{"a query with percents", withQuery(httpUrl(nameA, 80, "/"), "%23%20%5C%2F%3F"), "http://a.com", "/?%23%20%5C%2F%3F"},
	{"a query with @ and :", withQuery(httpUrl(nameA, 80, "/"), "u:p@b.com:90"), "http://a.com", "/?u:p@b.com:90"},
	{"a query that is an address", withQuery(httpUrl(nameA, 80, "/"), "http://b.com/?"), "http://a.com", "/?http://b.com/?"},
}

// Texts of addresses that are not their own ones.
var otherUrlTexts = []struct{ why, s, text string }{
	{"no path", "http://a.com", "http://a.com/"},
	{"no path, the other scheme", "https://a.com", "https://a.com/"},
	{"great letters in the scheme", "HTTP://a.com/", "http://a.com/"},
	{"great letters in the other scheme", "hTTpS://a.com/", "https://a.com/"},
	{"great letters in the host", "http://Example.COM/", "http://example.com/"},
	{"great letters in the path stay", "HTTP://A.COM/AbC?DeF", "http://a.com/AbC?DeF"},
	{"a host of runes", "http://BüCHER.de/", "http://xn--bcher-kva.de/"},
	{"a host by percents", "http://%61%2ECOM/", "http://a.com/"},
	{"a host with a dot at its end", "http://a.com./", "http://a.com/"},
	{"a host with a dot at its end and a port", "http://a.com.:90/", "http://a.com:90/"},
	{"a loose address of four", "http://0x7f.1/", "http://127.0.0.1/"},
	{"a number as an address of four", "http://1:2/", "http://0.0.0.1:2/"},
	{"an address of eight with noughts written", "http://[0:0:0:0:0:0:0:1]:80/", "http://[::1]/"},
	{"an address of eight in great letters", "http://[ABCD::]/", "http://[abcd::]/"},
	{"an address of eight with one of four in it", "https://[::FFFF:1.2.3.4]:443", "https://[::ffff:102:304]/"},
	{"its own port", "http://a.com:80/", "http://a.com/"},
	{"its own port, the other scheme", "https://a.com:443/", "https://a.com/"},
	{"its own port behind brackets", "http://[::1]:80", "http://[::1]/"},
	{"its own port without a path", "http://a.com:80", "http://a.com/"},
	{"its own port ahead of a query", "http://a.com:80?x", "http://a.com/?x"},
	{"no port behind the colon", "http://a.com:/", "http://a.com/"},
	{"no port behind the colon, the other scheme", "https://a.com:", "https://a.com/"},
	{"no port behind the colon, brackets", "http://[::1]:/", "http://[::1]/"},
	{"no port behind the colon, a query", "https://a.com:?x", "https://a.com/?x"},
	{"a nought ahead of a port", "http://a.com:080/", "http://a.com/"},
	{"noughts ahead of a port", "http://a.com:00081/", "http://a.com:81/"},
	{"noughts ahead of the first port", "http://a.com:00001/", "http://a.com:1/"},
	{"noughts ahead of the other scheme's port", "http://a.com:0443/", "http://a.com:443/"},
	{"three slashes", "http:///a.com/", "http://a.com/"},
	{"very many slashes", "http:" + strings.Repeat("/", 1000) + "a.com/", "http://a.com/"},
	{"two backslashes", `http:\\a.com\b`, "http://a.com/b"},
	{"a slash and a backslash", `http:/\a.com`, "http://a.com/"},
	{"a backslash and a slash", `http:\/a.com`, "http://a.com/"},
	{"four of both", `https:\/\/a.com`, "https://a.com/"},
	{"a backslash behind the authority", `http://a.com\`, "http://a.com/"},
	{"a backslash behind a port", `http://a.com:90\x`, "http://a.com:90/x"},
	{"two backslashes behind the authority", `http://a.com\\x`, "http://a.com//x"},
	{"backslashes in the path", `http://a.com/a\b\c`, "http://a.com/a/b/c"},
	{"ways back between backslashes", `http://a.com/a\..\b`, "http://a.com/b"},
	{"a backslash in the query", `http://a.com/?a\b`, "http://a.com/?a%5Cb"},
	{"a percent of a backslash in the path", "http://a.com/a%5cb", "http://a.com/a%5Cb"},
	{"a percent of a backslash beside dots", "http://a.com/a/..%5c..", "http://a.com/a/..%5C.."},
	{"an @ behind a backslash", `http://a.com\@b.com`, "http://a.com/@b.com"},
	{"an @ behind a slash", "http://a.com/@b.com:90", "http://a.com/@b.com:90"},
	{"an @ behind a ?", "http://a.com?@b.com", "http://a.com/?@b.com"},
	{"an @ behind a #", "http://a.com#@b.com", "http://a.com/"},
	{"a colon behind a slash", "http://a.com/:x", "http://a.com/:x"},
	{"a colon behind a ?", "http://a.com?:x", "http://a.com/?:x"},
	{"a colon behind a #", "http://a.com#:x", "http://a.com/"},
	{"a bracket in the path behind a port", "http://a.com:90/]", "http://a.com:90/%5D"},
	{"a bracket in the query behind a port", "http://a.com:90?]", "http://a.com:90/?%5D"},
	{"a bracket behind the #, and a port", "http://a.com:90#]", "http://a.com:90/"},
	{"blanks around", " \t\r\n http://a.com/ \n\r\t ", "http://a.com/"},
	{"a tab within the scheme", "ht\ttp://a.com/", "http://a.com/"},
	{"a line's end between scheme and colon", "http\n://a.com/", "http://a.com/"},
	{"breaks between the slashes", "http:\r/\n/\t/a.com/", "http://a.com/"},
	{"a break within the host", "http://a\n.c\tom/", "http://a.com/"},
	{"a break within an address of four", "http://1.2.\r3.4/", "http://1.2.3.4/"},
	{"a break within brackets", "http://[:\t:1]/", "http://[::1]/"},
	{"a break within the port", "http://a.com:9\n0/", "http://a.com:90/"},
	{"a break alone as the port", "http://a.com:\n/", "http://a.com/"},
	{"a break within the path", "http://a.com/a\r\nb", "http://a.com/ab"},
	{"a break within a percent", "http://a.com/%\t4\n1", "http://a.com/A"},
	{"a break within a way back", "http://a.com/a/.\n./b", "http://a.com/b"},
	{"a break within the query", "http://a.com/?a\tb", "http://a.com/?ab"},
	{"breaks by percents stay", "http://a.com/%09%0a?%0D", "http://a.com/%09%0A?%0D"},
	{"a blank within the path", "http://a.com/a b", "http://a.com/a%20b"},
	{"a blank within the query", "http://a.com/?a b", "http://a.com/?a%20b"},
	{"a blank between a break and the end", "http://a.com/a \n ", "http://a.com/a"},
	{"a blank ahead of the #", "http://a.com/a #b", "http://a.com/a%20"},
	{"a blank ahead of the # in the query", "http://a.com/?a #b", "http://a.com/?a%20"},
	{"a #", "http://a.com/#", "http://a.com/"},
	{"a # and what is behind it", "http://a.com/a#b", "http://a.com/a"},
	{"a # behind the authority", "http://a.com#b", "http://a.com/"},
	{"a # behind the port", "http://a.com:90#b", "http://a.com:90/"},
	{"a # behind a colon", "https://a.com:#90", "https://a.com/"},
	{"a # behind the query", "http://a.com/?a#b?c", "http://a.com/?a"},
	{"a # right behind the ?", "http://a.com/?#b", "http://a.com/?"},
	{"a ? behind the #", "http://a.com/#?b", "http://a.com/"},
	{"two of #", "http://a.com/a#b#c", "http://a.com/a"},
	{"a # and ways back behind it", "http://a.com/a#/../b", "http://a.com/a"},
	{"a # and bytes that are no text", "http://a.com/a#\xff\x00", "http://a.com/a"},
	{"a ? right behind the authority", "http://a.com?x", "http://a.com/?x"},
	{"a ? right behind the authority, and nothing", "http://a.com?", "http://a.com/?"},
	{"a ? right behind the authority, and slashes", "http://a.com?/a/../b", "http://a.com/?/a/../b"},
	{"a ? right behind brackets", "http://[::1]?x", "http://[::1]/?x"},
	{"a path of a dot", "http://a.com/.", "http://a.com/"},
	{"a path of two dots", "http://a.com/..", "http://a.com/"},
	{"a path of ways back", "http://a.com/../../a/./b/..", "http://a.com/a/"},
	{"ways back by percents", "http://a.com/a/%2e%2E/b/%2e", "http://a.com/b/"},
	{"a way back ahead of a query", "http://a.com/a/..?/..", "http://a.com/?/.."},
	{"a way back that leaves empty parts", "http://a.com/a/..//b", "http://a.com//b"},
	{"a percent of a letter", "http://a.com/%61?%62", "http://a.com/a?b"},
	{"a percent in small digits", "http://a.com/%c3%a9?%2f", "http://a.com/%C3%A9?%2F"},
	{"a percent of ? in the path", "http://a.com/%3fa", "http://a.com/%3Fa"},
	{"a percent of # in the path", "http://a.com/%23a", "http://a.com/%23a"},
	{"a percent without digits", "http://a.com/%?%", "http://a.com/%25?%25"},
	{"a percent with one digit ahead of a ?", "http://a.com/%4?1", "http://a.com/%254?1"},
	{"a percent of a percent", "http://a.com/%2541", "http://a.com/%2541"},
	{"runes in path and query", "http://a.com/é?ü", "http://a.com/%C3%A9?%C3%BC"},
	{"bytes that are no runes", "http://a.com/\xff?\xfe\xc3", "http://a.com/%FF?%FE%C3"},
	{"a byte 0 in path and query", "http://a.com/\x00?\x00", "http://a.com/%00?%00"},
	{"other blanks within", "http://a.com/\v\f\u00a0", "http://a.com/%0B%0C%C2%A0"},
	{"marks that are not kept", "http://a.com/\"<>[]^`{|}?\"<>[]^`{|}", "http://a.com/%22%3C%3E%5B%5D%5E%60%7B%7C%7D?%22%3C%3E%5B%5D%5E%60%7B%7C%7D"},
	{"a ? in the query stays", "http://a.com/a?b?c", "http://a.com/a?b?c"},
}

// Texts of no address, and which fault counts.
var noUrlTexts = []struct {
	why, s string
	fault  int
}{
	{"one byte more than MaxUrl", "http://a.com/" + strings.Repeat("a", 1988), impl.UrlLong},
	{"very many bytes", "http://a.com/" + strings.Repeat("a", 1<<20), impl.UrlLong},
	{"blanks alone, too many", strings.Repeat(" ", 2001), impl.UrlLong},
	{"blanks around, too many", strings.Repeat(" ", 1000) + "http://a.com/" + strings.Repeat(" ", 988), impl.UrlLong},
	{"breaks within, too many", "http://a.com/" + strings.Repeat("\n", 1987) + "a", impl.UrlLong},
	{"too many behind a #", "http://a.com/#" + strings.Repeat("a", 1987), impl.UrlLong},
	{"too many slashes", "http:" + strings.Repeat("/", 1991) + "a.com", impl.UrlLong},
	{"too many ways back", "http://a.com" + strings.Repeat("/..", 663), impl.UrlLong},
	{"bytes 0 alone, too many", strings.Repeat("\x00", 2001), impl.UrlLong},
	{"a path too long in percents", "http://a.com/" + strings.Repeat(" ", 663) + "a", impl.UrlLong},
	{"a query too long in percents", "http://a.com/?" + strings.Repeat(" ", 663) + "a", impl.UrlLong},

	{"no bytes", "", impl.UrlScheme},
	{"blanks alone", " \t\r\n", impl.UrlScheme},
	{"a # alone", "#", impl.UrlScheme},
	{"a # ahead", "#http://a.com/", impl.UrlScheme},
	{"a # within the scheme", "htt#p://a.com/", impl.UrlScheme},
	{"a # between the slashes", "http:/#/a.com/", impl.UrlScheme},
	{"a # behind the colon", "http:#//a.com/", impl.UrlScheme},
	{"a path alone", "/a", impl.UrlScheme},
	{"an authority alone", "//a.com/", impl.UrlScheme},
	{"a name alone", "a.com", impl.UrlScheme},
	{"a colon alone", ":", impl.UrlScheme},
	{"no scheme ahead of the colon", "://a.com/", impl.UrlScheme},
	{"another scheme", "ftp://a.com/", impl.UrlScheme},
	{"another scheme that begins as one", "httpx://a.com/", impl.UrlScheme},
	{"another scheme that begins as the other", "httpss://a.com/", impl.UrlScheme},
	{"another scheme that ends as one", "xhttp://a.com/", impl.UrlScheme},
	{"a beginning of the scheme", "htt://a.com/", impl.UrlScheme},
	{"a scheme and a rune", "httpſ://a.com/", impl.UrlScheme},
	{"a scheme by percents", "%68ttp://a.com/", impl.UrlScheme},
	{"a colon by a percent", "http%3A//a.com/", impl.UrlScheme},
	{"a blank within the scheme", "ht tp://a.com/", impl.UrlScheme},
	{"a blank ahead of the colon", "http ://a.com/", impl.UrlScheme},
	{"a blank behind the colon", "http: //a.com/", impl.UrlScheme},
	{"a blank between the slashes", "http:/ /a.com/", impl.UrlScheme},
	{"a byte 0 ahead", "\x00http://a.com/", impl.UrlScheme},
	{"another blank ahead", "\vhttp://a.com/", impl.UrlScheme},
	{"a blank of two bytes ahead", "\u00a0http://a.com/", impl.UrlScheme},
	{"no colon", "http//a.com/", impl.UrlScheme},
	{"two colons", "http:://a.com/", impl.UrlScheme},
	{"the scheme alone", "http", impl.UrlScheme},
	{"the scheme and its colon", "http:", impl.UrlScheme},
	{"no slashes", "http:a.com", impl.UrlScheme},
	{"one slash", "http:/a.com/", impl.UrlScheme},
	{"one slash, the other scheme", "https:/a.com//", impl.UrlScheme},
	{"one backslash", `http:\a.com/`, impl.UrlScheme},
	{"a slash by a percent", "http:/%2Fa.com/", impl.UrlScheme},
	{"a ? ahead of the slashes", "http:?//a.com/", impl.UrlScheme},

	{"a user", "http://u@a.com/", impl.UrlUser},
	{"a user and a word", "http://u:p@a.com/", impl.UrlUser},
	{"no user ahead of the @", "http://@a.com/", impl.UrlUser},
	{"an @ at the end", "http://a.com@", impl.UrlUser},
	{"an @ alone", "http://@", impl.UrlUser},
	{"two of @", "http://u@p@a.com/", impl.UrlUser},
	{"an @ behind the port", "http://a.com:80@/", impl.UrlUser},
	{"an @ within brackets", "http://[@]/", impl.UrlUser},
	{"an @ ahead of a #", "http://u@#a.com", impl.UrlUser},
	{"an @ ahead of a backslash", `http://u@a.com\`, impl.UrlUser},

	{"port 0", "http://a.com:0/", impl.UrlPort},
	{"noughts alone as a port", "http://a.com:00000/", impl.UrlPort},
	{"one port too many", "http://a.com:65536/", impl.UrlPort},
	{"the last of five digits", "http://a.com:99999", impl.UrlPort},
	{"six digits", "http://a.com:100000/", impl.UrlPort},
	{"six digits, noughts ahead", "http://a.com:000080/", impl.UrlPort},
	{"six noughts", "http://a.com:000000/", impl.UrlPort},
	{"a port that wraps round", "http://a.com:18446744073709551696/", impl.UrlPort},
	{"a port of letters", "http://a.com:x/", impl.UrlPort},
	{"a port with a letter behind", "http://a.com:80x/", impl.UrlPort},
	{"a port with a letter ahead", "http://a.com:x80/", impl.UrlPort},
	{"a port of hex digits", "http://a.com:ff/", impl.UrlPort},
	{"a port with 0x", "http://a.com:0x50/", impl.UrlPort},
	{"a port below 0", "http://a.com:-1/", impl.UrlPort},
	{"a port with a plus", "http://a.com:+80/", impl.UrlPort},
	{"a port with a blank ahead", "http://a.com: 80/", impl.UrlPort},
	{"a port with a blank behind", "http://a.com:80 /", impl.UrlPort},
	{"a blank as a port ahead of a #", "http://a.com: #", impl.UrlPort},
	{"a port by percents", "http://a.com:%38%30/", impl.UrlPort},
	{"a port in digits of another kind", "http://a.com:٨٠/", impl.UrlPort},
	{"a port with a dot", "http://a.com:80./", impl.UrlPort},
	{"two ports", "http://a.com:80:80/", impl.UrlPort},
	{"two colons and nothing", "http://a.com::/", impl.UrlPort},
	{"a port behind two colons", "http://a.com::80/", impl.UrlPort},
	{"a wrong port behind brackets", "http://[::1]:0/", impl.UrlPort},
	{"two ports behind brackets", "http://[::1]:80:80/", impl.UrlPort},
	{"an address of eight without its brackets", "http://1:2:3:4:5:6:7:8/", impl.UrlPort},
	{"an address of eight without brackets, ahead empty", "http://::1/", impl.UrlPort},
	{"a bracket that is not ended", "http://[::1/", impl.UrlPort},
	{"a bracket that is not ended, and a port", "http://[::1:80", impl.UrlPort},
	{"a bracket that ends in the path", "http://[::1/]", impl.UrlPort},

	{"no authority", "http://", impl.UrlHost},
	{"no authority, three slashes", "http:///", impl.UrlHost},
	{"no authority ahead of a ?", "http://?x", impl.UrlHost},
	{"no authority ahead of a #", "http://#x", impl.UrlHost},
	{"a port alone", "http://:80/", impl.UrlHost},
	{"a colon alone as the authority", "http://:/", impl.UrlHost},
	{"a blank in the host", "http://a b/", impl.UrlHost},
	{"a blank ahead of the host", "http:// a.com/", impl.UrlHost},
	{"a blank behind the host", "http://a.com /", impl.UrlHost},
	{"a blank behind the host, ahead of a #", "http://a.com #x", impl.UrlHost},
	{"a line below", "http://a_b/", impl.UrlHost},
	{"an empty label", "http://a..b/", impl.UrlHost},
	{"a dot", "http://./", impl.UrlHost},
	{"a label that ends with a hyphen", "http://a-.com/", impl.UrlHost},
	{"a name that ends in a number", "http://a.1/", impl.UrlHost},
	{"five numbers", "http://1.2.3.4.5/", impl.UrlHost},
	{"a number too great", "http://4294967296/", impl.UrlHost},
	{"no code", "http://xn--99999999/", impl.UrlHost},
	{"a name of one byte too many", "http://" + tooMuch + "/", impl.UrlHost},
	{"bytes that are no runes", "http://\xff/", impl.UrlHost},
	{"a byte 0", "http://a\x00/", impl.UrlHost},
	{"a colon by a percent in the host", "http://a.com%3A80/", impl.UrlHost},
	{"an @ by a percent", "http://u%40a.com/", impl.UrlHost},
	{"a slash by a percent in the host", "http://a.com%2F/", impl.UrlHost},
	{"a percent without digits in the host", "http://a%/", impl.UrlHost},
	{"brackets with nothing in them", "http://[]/", impl.UrlHost},
	{"brackets with a name in them", "http://[a.com]/", impl.UrlHost},
	{"brackets with an address of four in them", "http://[1.2.3.4]/", impl.UrlHost},
	{"brackets with too few groups", "http://[1:2:3]:80/", impl.UrlHost},
	{"a digit behind brackets", "http://[::1]80/", impl.UrlHost},
	{"a bracket behind the port", "http://[::1]:80]/", impl.UrlHost},
	{"a bracket behind a name's port", "http://a.com:80]/", impl.UrlHost},
	{"a bracket behind a name's wrong port", "http://a.com:x]/", impl.UrlHost},
	{"a bracket behind a name's wrong port, then a right one", "http://a.com:x]:80/", impl.UrlHost},
	{"a bracket behind a colon", "http://a.com:]/", impl.UrlHost},
	{"a bracket alone", "http://[/", impl.UrlHost},
	{"a bracket and a colon", "http://[:/", impl.UrlHost},
	{"a bracket's end alone", "http://]/", impl.UrlHost},
	{"a zone within brackets", "http://[fe80::1%25a]/", impl.UrlHost},
}

// Addresses that are not right, and have no text.
var wrongUrls = []struct {
	why string
	u   impl.Url
}{
	{"the zero one", impl.Url{}},
	{"Scheme 0", impl.Url{Scheme: 0, Host: nameA, Port: 80, Path: "/"}},
	{"Scheme 3", impl.Url{Scheme: 3, Host: nameA, Port: 80, Path: "/"}},
	{"Scheme -1", impl.Url{Scheme: -1, Host: nameA, Port: 80, Path: "/"}},
	{"a Scheme that wraps round", impl.Url{Scheme: 1<<32 + 1, Host: nameA, Port: 80, Path: "/"}},
	{"a Scheme of 8 bits that wraps round", impl.Url{Scheme: 257, Host: nameA, Port: 80, Path: "/"}},
	{"no Host", httpUrl(impl.Host{}, 80, "/")},
	{"a Host with great letters", httpUrl(nameHost("A.com"), 80, "/")},
	{"a Host with a dot at its end", httpUrl(nameHost("a.com."), 80, "/")},
	{"a Host that ends in a number", httpUrl(nameHost("1.2.3.4"), 80, "/")},
	{"a Host with a port", httpUrl(nameHost("a.com:80"), 80, "/")},
	{"a Host with a field more", httpUrl(impl.Host{K: impl.HostName, Name: "a.com", N: 1}, 80, "/")},
	{"a Host of four that is too great", httpUrl(fourHost(ip4Last+1), 80, "/")},
	{"a Host of eight that is too great", httpUrl(sixHost([8]int{65536}), 80, "/")},
	{"Port 0", httpUrl(nameA, 0, "/")},
	{"Port 0, the other scheme", httpsUrl(nameA, 0, "/")},
	{"Port 65536", httpUrl(nameA, 65536, "/")},
	{"Port -1", httpUrl(nameA, -1, "/")},
	{"a Port that wraps round", httpUrl(nameA, 65536+80, "/")},
	{"the least Port", httpUrl(nameA, math.MinInt, "/")},
	{"the greatest Port", httpUrl(nameA, math.MaxInt, "/")},
	{"no Path", httpUrl(nameA, 80, "")},
	{"a Path without a slash ahead", httpUrl(nameA, 80, "a")},
	{"a Path with a slash behind alone", httpUrl(nameA, 80, "a/")},
	{"a Path with a backslash ahead", httpUrl(nameA, 80, `\a`)},
	{"a Path with a blank ahead", httpUrl(nameA, 80, " /")},
	{"a Path that begins with a percent of a slash", httpUrl(nameA, 80, "%2Fa")},
	{"a Path of a dot", httpUrl(nameA, 80, "/.")},
	{"a Path of two dots", httpUrl(nameA, 80, "/..")},
	{"a Path with a dot", httpUrl(nameA, 80, "/a/./b")},
	{"a Path with a way back", httpUrl(nameA, 80, "/a/../b")},
	{"a Path with a dot by a percent", httpUrl(nameA, 80, "/%2E")},
	{"a Path with a way back by percents", httpUrl(nameA, 80, "/a/%2E%2E/b")},
	{"a Path with a letter by a percent", httpUrl(nameA, 80, "/%61")},
	{"a Path with a percent in small digits", httpUrl(nameA, 80, "/%2f")},
	{"a Path with a percent without digits", httpUrl(nameA, 80, "/%")},
	{"a Path with a percent with one digit", httpUrl(nameA, 80, "/%2")},
	{"a Path with a blank", httpUrl(nameA, 80, "/a b")},
	{"a Path with a blank behind", httpUrl(nameA, 80, "/a ")},
	{"a Path with a line's end", httpUrl(nameA, 80, "/a\n")},
	{"a Path with a ?", httpUrl(nameA, 80, "/a?b")},
	{"a Path with a #", httpUrl(nameA, 80, "/a#b")},
	{"a Path with a backslash", httpUrl(nameA, 80, `/a\b`)},
	{"a Path with a rune", httpUrl(nameA, 80, "/é")},
	{"a Path with a byte 255", httpUrl(nameA, 80, "/\xff")},
	{"a Query without HasQuery", impl.Url{Scheme: 1, Host: nameA, Port: 80, Path: "/", Query: "x"}},
	{"a Query that is not plain, without HasQuery", impl.Url{Scheme: 1, Host: nameA, Port: 80, Path: "/", Query: " "}},
	{"a Query with a blank", withQuery(httpUrl(nameA, 80, "/"), "a b")},
	{"a Query with a #", withQuery(httpUrl(nameA, 80, "/"), "#")},
	{"a Query with a backslash", withQuery(httpUrl(nameA, 80, "/"), `\`)},
	{"a Query with a letter by a percent", withQuery(httpUrl(nameA, 80, "/"), "%61")},
	{"a Query with a percent in small digits", withQuery(httpUrl(nameA, 80, "/"), "%2f")},
	{"a Query with a percent without digits", withQuery(httpUrl(nameA, 80, "/"), "%")},
	{"a Query with a rune", withQuery(httpUrl(nameA, 80, "/"), "é")},
	{"a Query with a byte 0", withQuery(httpUrl(nameA, 80, "/"), "\x00")},
	{"a right Query behind a wrong Path", withQuery(httpUrl(nameA, 80, "x"), "y")},
}

// The forms of chapter 8, told by patterns.
var (
	urlBlanks    = regexp.MustCompile(`\A[ \t\n\r]+|[ \t\n\r]+\z`)
	urlPassed    = regexp.MustCompile(`(?s)[\t\n\r]|#.*`)
	urlForm      = regexp.MustCompile(`(?s)\A([hH][tT][tT][pP][sS]?):[/\\]{2,}([^/\\?]*)([^?]*)(\?.*)?\z`)
	portForm     = regexp.MustCompile(`(?s)\A((?:.*\])?[^:]*)(?::(.*))?\z`)
	portDigits   = regexp.MustCompile(`\A[0-9]{1,5}\z`)
	pathForm     = regexp.MustCompile(`\A/([A-Za-z0-9\-._~!$&'()*+,;=:@/]|%[0-9A-F]{2})*\z`)
	queryForm    = regexp.MustCompile(`\A([A-Za-z0-9\-._~!$&'()*+,;=:@/?]|%[0-9A-F]{2})*\z`)
	needlessHex  = regexp.MustCompile(`%(2[DE]|3[0-9]|4[1-9A-F]|5[0-9AF]|6[1-9A-F]|7[0-9AE])`)
	dotsInPath   = regexp.MustCompile(`/\.{1,2}(/|\z)`)
	ownPorts     = map[int]int{1: 80, 2: 443}
	schemeOfText = map[string]int{"http": 1, "https": 2}
)

func wantPlainly(s string, set int) string {
	var text strings.Builder
	for s != "" {
		piece, c := percentPiece(s)
		s = s[len(piece):]
		switch {
		case c >= 0 && strings.Contains(plainBytes, oneByte(c)):
			piece = oneByte(c)
		case c >= 0:
			piece = wantPercent(c, greatDigits)
		case !strings.Contains(wantKept(set), piece):
			piece = wantPercent(int(piece[0]), greatDigits)
		}
		text.WriteString(piece)
	}
	return text.String()
}

// wantPort tells -1 of what is no port.
func wantPort(s string, scheme int) int {
	if s == "" {
		return ownPorts[scheme]
	}
	n, err := strconv.Atoi(s)
	if err != nil || !portDigits.MatchString(s) || n == 0 || n > 65535 {
		return -1
	}
	return n
}

// wantUrlText is what is left of the conditions on each field.
func wantUrlText(u impl.Url) string {
	host := wantHostText(u.Host)
	own, known := ownPorts[u.Scheme]
	if !known || host == "" || u.Port < 1 || u.Port > 65535 {
		return ""
	}
	if !pathForm.MatchString(u.Path) || !queryForm.MatchString(u.Query) || !u.HasQuery && u.Query != "" {
		return ""
	}
	if needlessHex.MatchString(u.Path+"?"+u.Query) || dotsInPath.MatchString(u.Path) {
		return ""
	}
	port := ":" + strconv.Itoa(u.Port)
	if u.Port == own {
		port = ""
	}
	return []string{"http://", "https://"}[u.Scheme-1] + host + port + wantRest(u)
}

func wantRest(u impl.Url) string {
	if u.HasQuery {
		return u.Path + "?" + u.Query
	}
	return u.Path
}

// wantUrl is chapter 8's ParseUrl, by patterns and by the other chapters as
// these tests tell them.
func wantUrl(s string) (impl.Url, int) {
	if len(s) > 2000 {
		return impl.Url{}, 1
	}
	pieces := urlForm.FindStringSubmatch(urlPassed.ReplaceAllString(urlBlanks.ReplaceAllString(s, ""), ""))
	if pieces == nil {
		return impl.Url{}, 2
	}
	u := impl.Url{Scheme: schemeOfText[wantLower(pieces[1])]}
	if strings.Count(pieces[2], "@") > 0 {
		return impl.Url{}, 3
	}
	authority := portForm.FindStringSubmatch(pieces[2])
	if u.Port = wantPort(authority[2], u.Scheme); u.Port < 0 {
		return impl.Url{}, 5
	}
	host, fault := wantHost(authority[1])
	if fault != 0 {
		return impl.Url{}, 4
	}
	u.Host = host
	u.Path = wantDropped(wantPlainly(strings.Join(strings.Split(pieces[3], `\`), "/"), impl.InPath))
	if u.Path == "" {
		u.Path = "/"
	}
	if u.HasQuery = pieces[4] != ""; u.HasQuery {
		u.Query = wantPlainly(pieces[4][1:], impl.InQuery)
	}
	if len(wantUrlText(u)) > 2000 {
		return impl.Url{}, 1
	}
	return u, 0
}

// checkUrl holds an address against a telling of its own, and against promise
// 8.
func checkUrl(t *testing.T, u impl.Url) {
	t.Helper()
	want := wantUrlText(u)
	text, origin, rest := impl.UrlText(u), impl.OriginOf(u), impl.PathQuery(u)
	if text != want || impl.UrlOk(u) != (want != "") {
		t.Fatalf("UrlText(%+v) = %q, UrlOk %v; want %q", u, text, impl.UrlOk(u), want)
	}
	if want == "" {
		if origin != "" || rest != "" {
			t.Fatalf("OriginOf(%+v) = %q, PathQuery %q", u, origin, rest)
		}
		return
	}
	if origin+rest != want || rest != wantRest(u) {
		t.Fatalf("OriginOf(%+v) = %q, PathQuery %q; want %q", u, origin, rest, want)
	}
	back, fault := impl.ParseUrl(text)
	if len(text) > 2000 {
		if back != (impl.Url{}) || fault != impl.UrlLong {
			t.Fatalf("ParseUrl of %d bytes: %+v, %d", len(text), back, fault)
		}
		return
	}
	if back != u || fault != impl.UrlGood {
		t.Fatalf("ParseUrl(%q) = %+v, %d; want %+v", text, back, fault, u)
	}
}

func checkUrlText(t *testing.T, s string) {
	t.Helper()
	want, wantFault := wantUrl(s)
	u, fault := impl.ParseUrl(s)
	if u != want || fault != wantFault {
		t.Fatalf("ParseUrl(%q) = %+v, %d; want %+v, %d", s, u, fault, want, wantFault)
	}
	if impl.UrlOk(u) != (fault == impl.UrlGood) {
		t.Fatalf("ParseUrl(%q) = %+v, %d, and it is UrlOk: %v", s, u, fault, impl.UrlOk(u))
	}
	checkUrl(t, u)
}

// checkFault holds the fault of a text, and that nothing stands beside it.
func checkFault(t *testing.T, s string, fault int) {
	t.Helper()
	if u, got := impl.ParseUrl(s); u != (impl.Url{}) || got != fault {
		t.Errorf("ParseUrl of %d bytes, %.80q: %+v, %d; want the zero one and %d", len(s), s, u, got, fault)
	}
	checkUrlText(t, s)
}

func TestUrlNumbers(t *testing.T) {
	if impl.SchemeHttp != 1 || impl.SchemeHttps != 2 || impl.MaxUrl != 2000 {
		t.Error(impl.SchemeHttp, impl.SchemeHttps, impl.MaxUrl)
	}
	if impl.UrlGood != 0 || impl.UrlLong != 1 || impl.UrlScheme != 2 || impl.UrlUser != 3 || impl.UrlHost != 4 || impl.UrlPort != 5 {
		t.Error(impl.UrlGood, impl.UrlLong, impl.UrlScheme, impl.UrlUser, impl.UrlHost, impl.UrlPort)
	}
}

func TestDefaultPort(t *testing.T) {
	for _, x := range []struct{ scheme, port int }{
		{impl.SchemeHttp, 80}, {impl.SchemeHttps, 443},
		{0, 0}, {3, 0}, {4, 0}, {-1, 0}, {-2, 0}, {80, 0}, {443, 0}, {257, 0}, {258, 0}, {65537, 0}, {1<<32 + 1, 0}, {1<<32 + 2, 0}, {math.MinInt, 0}, {math.MinInt + 1, 0}, {math.MaxInt, 0},
	} {
		if port := impl.DefaultPort(x.scheme); port != x.port {
			t.Errorf("DefaultPort(%d) = %d; want %d", x.scheme, port, x.port)
		}
	}
}

func TestRightUrls(t *testing.T) {
	for _, x := range rightUrls {
		text := x.origin + x.rest
		if !impl.UrlOk(x.u) || impl.UrlText(x.u) != text {
			t.Errorf("%s: UrlText(%+v) = %q, UrlOk %v; want %q", x.why, x.u, impl.UrlText(x.u), impl.UrlOk(x.u), text)
		}
		if origin, rest := impl.OriginOf(x.u), impl.PathQuery(x.u); origin != x.origin || rest != x.rest {
			t.Errorf("%s: OriginOf %q, PathQuery %q; want %q, %q", x.why, origin, rest, x.origin, x.rest)
		}
		if u, fault := impl.ParseUrl(text); u != x.u || fault != impl.UrlGood {
			t.Errorf("%s: ParseUrl(%q) = %+v, %d; want %+v", x.why, text, u, fault, x.u)
		}
		checkUrl(t, x.u)
		checkUrlText(t, text)
	}
}

func TestOtherUrlTexts(t *testing.T) {
	for _, x := range otherUrlTexts {
		u, fault := impl.ParseUrl(x.s)
		if text := impl.UrlText(u); text != x.text || fault != impl.UrlGood {
			t.Errorf("%s: ParseUrl(%q) = %+v, %d, text %q; want %q", x.why, x.s, u, fault, text, x.text)
		}
		if same, fault := impl.ParseUrl(x.text); same != u || fault != impl.UrlGood {
			t.Errorf("%s: ParseUrl(%q) = %+v, %d; want %+v", x.why, x.text, same, fault, u)
		}
		checkUrlText(t, x.s)
		checkUrlText(t, x.text)
	}
}

func TestNoUrlTexts(t *testing.T) {
	for _, x := range noUrlTexts {
		t.Run(x.why, func(t *testing.T) { checkFault(t, x.s, x.fault) })
	}
}

func TestWrongUrls(t *testing.T) {
	for _, x := range wrongUrls {
		if impl.UrlOk(x.u) {
			t.Errorf("%s: UrlOk: %+v", x.why, x.u)
		}
		if text, origin, rest := impl.UrlText(x.u), impl.OriginOf(x.u), impl.PathQuery(x.u); text+origin+rest != "" {
			t.Errorf("%s: UrlText %q, OriginOf %q, PathQuery %q", x.why, text, origin, rest)
		}
		checkUrl(t, x.u)
	}
}

// Each piece of a text right or wrong, in all ways: of the wrong ones the one
// that the document tells first counts.
func TestWhichFaultComesFirst(t *testing.T) {
	for wrong := range 32 {
		long, scheme, user, port, host := "", "http", "", "90", "a.com"
		fault := impl.UrlGood
		if wrong&16 != 0 {
			host, fault = "a_b", impl.UrlHost
		}
		if wrong&8 != 0 {
			port, fault = "0", impl.UrlPort
		}
		if wrong&4 != 0 {
			user, fault = "u@", impl.UrlUser
		}
		if wrong&2 != 0 {
			scheme, fault = "ftp", impl.UrlScheme
		}
		if wrong&1 != 0 {
			long, fault = strings.Repeat("a", impl.MaxUrl), impl.UrlLong
		}
		s := scheme + "://" + user + host + ":" + port + "/" + long
		if fault != impl.UrlGood {
			checkFault(t, s, fault)
		}
		checkUrlText(t, s)
		// A text that only percents would make too long is told so last.
		if fault != impl.UrlLong {
			s = scheme + "://" + user + host + ":" + port + "/" + strings.Repeat(" ", 900) + "a"
			checkFault(t, s, max(fault, impl.UrlLong))
		}
	}
}

func TestUrlsOfAboutMaxUrlBytes(t *testing.T) {
	for _, x := range []struct{ why, ahead, fill, behind string }{
		{"a path", "http://a.com/", "a", ""},
		{"a query", "http://a.com/?", "a", ""},
		{"a path ahead of a query", "https://[::1]:90/", "a", "?b"},
		{"blanks ahead", "", " ", "http://a.com/"},
		{"blanks behind", "http://a.com/", "\n", ""},
		{"breaks within", "http://a.", "\t", "com/"},
		{"behind a #", "http://a.com/#", "a", ""},
		{"slashes", "http:", "/", "a.com"},
		{"backslashes", "http:", `\`, "a.com"},
		{"slashes behind the authority", "http://a.com", "/", ""},
	} {
		room := impl.MaxUrl - len(x.ahead) - len(x.behind)
		for more := -3; more <= 3; more++ {
			s := x.ahead + strings.Repeat(x.fill, room+more) + x.behind
			u, fault := impl.ParseUrl(s)
			if more > 0 && (fault != impl.UrlLong || u != impl.Url{}) || more <= 0 && fault != impl.UrlGood {
				t.Errorf("%s: %d bytes: fault %d, %+v", x.why, len(s), fault, u)
			}
			checkUrlText(t, s)
		}
	}
}

// Texts that are short enough, but whose addresses' texts may not be.
func TestUrlsWhoseTextIsOfAboutMaxUrlBytes(t *testing.T) {
	for _, x := range []struct {
		why, ahead, behind string
		grown              int
	}{
		{"a path", "http://a.com/", "", 13},
		{"a query", "http://a.com/?", "", 14},
		{"a query right behind the authority grows by a slash", "http://a.com?", "", 14},
		{"great letters and a port that is left out", "HTTP://A.com:80/", "", 13},
		{"noughts ahead of the port are left out", "http://a.com:00090/", "", 16},
		{"a host that grows", "http://ü/", "", 15},
		{"a host of four that grows", "http://1/", "", 15},
		{"a host of eight that shrinks", "http://[0:0:0:0:0:0:0:0]/", "", 12},
		{"a # and what is behind it are left out", "http://a.com/", "#abc", 13},
		{"ways back are left out", "http://a.com/b/../", "", 13},
	} {
		for most := 1990; most <= 2010; most++ {
			thrice, once := (most-x.grown)/3, (most-x.grown)%3
			s := x.ahead + strings.Repeat("<", thrice) + strings.Repeat("a", once) + x.behind
			u, fault := impl.ParseUrl(s)
			if most > 2000 {
				checkFault(t, s, impl.UrlLong)
			} else if text := impl.UrlText(u); fault != impl.UrlGood || len(text) != most {
				t.Errorf("%s: ParseUrl of %d bytes: %d, a text of %d bytes; want %d", x.why, len(s), fault, len(text), most)
			}
			checkUrlText(t, s)
		}
	}
}

// UrlOk knows no length, so an address that is too long to be read has a text.
func TestUrlsThatAreTooLongToBeRead(t *testing.T) {
	for _, many := range []int{1986, 1987, 1988, 5000, 100000} {
		for _, u := range []impl.Url{
			httpUrl(nameA, 80, "/"+strings.Repeat("a", many)),
			withQuery(httpUrl(nameA, 80, "/"), strings.Repeat("?", many)),
			httpsUrl(nameA, 80, strings.Repeat("/", many)),
			withQuery(httpsUrl(eightOne, 1, "/"+strings.Repeat("%20", many)), strings.Repeat("%3F", many)),
		} {
			if !impl.UrlOk(u) || impl.PathQuery(u) != wantRest(u) {
				t.Errorf("an address with %d bytes of path and query has no text", len(u.Path)+len(u.Query))
			}
			checkUrl(t, u)
		}
	}
}

func TestSlashesBehindTheScheme(t *testing.T) {
	eachText(`/\`, 6, func(row string) {
		for scheme, text := range map[string]string{"http:": "http://a.com/b", "HTTPS:": "https://a.com/b"} {
			s := scheme + row + "a.com/b"
			if len(row) < 2 {
				checkFault(t, s, impl.UrlScheme)
			} else if u, fault := impl.ParseUrl(s); fault != impl.UrlGood || impl.UrlText(u) != text {
				t.Errorf("ParseUrl(%q) = %+v, %d", s, u, fault)
			}
			checkUrlText(t, s)
			checkUrlText(t, scheme+row)
			checkUrlText(t, scheme+"//a.com"+row)
		}
	})
}

func TestEveryPort(t *testing.T) {
	for n := range 65540 {
		digits := strconv.Itoa(n)
		for scheme, own := range ownPorts {
			origin := []string{"http://", "https://"}[scheme-1] + "a"
			u, fault := impl.ParseUrl(origin + ":" + digits)
			if n == 0 || n > 65535 {
				if fault != impl.UrlPort || u != (impl.Url{}) {
					t.Fatalf("port %d: %+v, %d", n, u, fault)
				}
				continue
			}
			if n != own {
				origin += ":" + digits
			}
			if fault != impl.UrlGood || u.Port != n || impl.OriginOf(u) != origin {
				t.Fatalf("port %d: %+v, %d, origin %q", n, u, fault, impl.OriginOf(u))
			}
		}
	}
}

func TestPortsWithNoughtsAhead(t *testing.T) {
	for _, n := range []string{"", "0", "1", "9", "80", "90", "443", "999", "8080", "65535", "65536", "99999"} {
		for many := range 8 {
			digits := strings.Repeat("0", many) + n
			for _, host := range []string{"a.com", "1.2.3.4", "[::1]", "a_b", ""} {
				checkUrlText(t, "http://"+host+":"+digits)
				checkUrlText(t, "https://"+host+":"+digits+"/")
				checkUrlText(t, "https://"+host+":"+digits+"]")
			}
			if len(digits) > 5 {
				checkFault(t, "http://a.com:"+digits, impl.UrlPort)
			}
		}
	}
}

// A right address with one field that may be wrong.
func TestUrlsWithOneFieldChanged(t *testing.T) {
	numbers := []int{-1, 0, 1, 2, 3, 80, 443, 65535, 65536, 65536 + 80, 1 << 32, 1<<32 + 1, math.MinInt, math.MaxInt}
	for _, x := range rightUrls {
		for _, n := range numbers {
			u := x.u
			u.Scheme = n
			checkUrl(t, u)
			u = x.u
			u.Port = n
			checkUrl(t, u)
		}
		for _, y := range wrongHosts {
			u := x.u
			u.Host = y.h
			checkUrl(t, u)
		}
		for _, y := range rightHosts {
			u := x.u
			u.Host = y.h
			checkUrl(t, u)
		}
		for _, y := range rightUrls {
			u := x.u
			u.HasQuery = y.u.HasQuery
			checkUrl(t, u)
			u.Query = y.u.Query
			checkUrl(t, u)
			u.HasQuery = !u.HasQuery
			checkUrl(t, u)
			u.Path = y.u.Path
			checkUrl(t, u)
		}
	}
}

// The texts of the chapters below, in the places where they may stand.
func TestUrlsOfTheTextsBelow(t *testing.T) {
	paths := []string{}
	for _, x := range plainPaths {
		paths = append(paths, x.p)
	}
	for _, x := range dottedPaths {
		paths = append(paths, x.p)
	}
	for _, x := range noPaths {
		paths = append(paths, x.p)
	}
	for _, p := range paths {
		checkUrlText(t, "http://a.com"+p)
		checkUrlText(t, "http://a.com/"+p)
		checkUrlText(t, "http://a.com?"+p)
		checkUrlText(t, p)
		checkUrl(t, httpUrl(nameA, 80, p))
		checkUrl(t, withQuery(httpUrl(nameA, 80, "/"), p))
	}
	for _, x := range otherHostTexts {
		checkUrlText(t, "https://"+x.s+":90/?")
	}
	for _, x := range noHostTexts {
		checkUrlText(t, "https://"+x.s)
		checkUrlText(t, "https://"+x.s+":90/?")
	}
}

func TestUrlOfEveryByte(t *testing.T) {
	for c := range 256 {
		for _, b := range []string{oneByte(c), wantPercent(c, smallDigits), wantPercent(c, greatDigits)} {
			whole := "https://a.com:90/p?q"
			for at := range len(whole) + 1 {
				checkUrlText(t, whole[:at]+b+whole[at:])
				checkUrlText(t, whole[:at]+b+b+whole[at:])
				checkUrlText(t, whole[:at]+b)
				if at < len(whole) {
					checkUrlText(t, whole[:at]+b+whole[at+1:])
				}
			}
			checkUrlText(t, "http://["+b+"::1]")
			checkUrlText(t, "http://[::1]"+b)
			checkUrlText(t, "http://[::1]:"+b)
			for _, u := range []impl.Url{
				httpUrl(nameA, 80, b),
				httpUrl(nameA, 80, "/"+b),
				httpUrl(nameA, 80, b+"/"),
				httpUrl(nameA, 80, "/a/"+b+"/b"),
				httpUrl(nameA, 80, "/."+b),
				httpUrl(nameHost(b), 80, "/"),
				withQuery(httpUrl(nameA, 80, "/"), b),
				withQuery(httpUrl(nameA, 80, "/"), "a"+b+"b"),
				{Scheme: 1, Host: nameA, Port: 80, Path: "/", Query: b},
			} {
				checkUrl(t, u)
			}
		}
	}
}

func TestUrlOfEveryShortText(t *testing.T) {
	eachText(`:/\?#@a`, 5, func(s string) {
		checkUrlText(t, s)
		checkUrlText(t, "http"+s)
		checkUrlText(t, "http://"+s)
		checkUrlText(t, "https://a"+s)
	})
	eachText("[]:1", 7, func(s string) { checkUrlText(t, "http://"+s) })
	eachText("./\\%2e?", 5, func(s string) { checkUrlText(t, "http://a/"+s) })
	eachText(" \n#/a", 5, func(s string) {
		checkUrlText(t, s+"http://a/"+s)
		checkUrlText(t, "http:/"+s+"/a"+s)
	})
	eachText("httpsS:/", 4, func(s string) { checkUrlText(t, s+"://a") })
}

func TestUrlsOfManyTexts(t *testing.T) {
	turn := rand.New(rand.NewSource(10))
	heads := []string{"http://", "https://", "HTTP:\\\\", "http:///", "http:/", "ftp://", "", " http://", "ht\ntps://"}
	hosts := []string{"a.com", "A.b", "1.2.3.4", "0x7f", "[::1]", "[1:2:3:4:5:6:7:8]", "[::1", "é", "u@a", "a_b", "", "a..b", "1.2.3.256"}
	pieces := []string{":", ":80", ":443", ":0", ":65536", "/", "/", "\\", "/..", "/.", "?", "#", "@", "]", "a", "%41", "%2e", "%2f", "%", "é", " ", "\t", "\r\n", "\xff", "\x00", "=", "&"}
	for range 100000 {
		s := heads[turn.Intn(len(heads))] + hosts[turn.Intn(len(hosts))]
		for range turn.Intn(9) {
			s += pieces[turn.Intn(len(pieces))]
		}
		checkUrlText(t, s)
	}
}

func TestUrlsOfManyBytes(t *testing.T) {
	turn := rand.New(rand.NewSource(11))
	for range 20000 {
		b := make([]byte, turn.Intn(40))
		for i := range b {
			b[i] = byte(turn.Intn(256))
		}
		checkUrlText(t, string(b))
		checkUrlText(t, "http://a"+string(b))
		checkUrlText(t, "http://a:1/"+string(b))
		checkUrl(t, httpUrl(nameA, 80, "/"+string(b)))
		checkUrl(t, withQuery(httpUrl(nameA, 80, "/"), string(b)))
	}
}

func TestUrlsAreNewMemory(t *testing.T) {
	for _, s := range []string{"http://a.com/", "http://a.com/a/b", "https://a.com:90/a?b", "http://a.com/abc?abc", "http://a.com?a"} {
		s = strings.Clone(s)
		u, _ := impl.ParseUrl(s)
		if lies(u.Host.Name, s) || lies(u.Path, s) || u.Query != "" && lies(u.Query, s) {
			t.Errorf("the address of %q lies in its argument's memory", s)
		}
		if u.Query != "" && (lies(u.Query, u.Path) || lies(u.Path, u.Query)) {
			t.Errorf("path and query of %q lie in one memory", s)
		}
		for _, text := range []string{impl.UrlText(u), impl.OriginOf(u), impl.PathQuery(u)} {
			if lies(text, u.Path) || lies(text, u.Host.Name) || u.Query != "" && lies(text, u.Query) {
				t.Errorf("%q of %q lies in its argument's memory", text, s)
			}
		}
	}
}

func TestUrlFaultsLeaveNothingBehind(t *testing.T) {
	want, _ := impl.ParseUrl("http://a.com/x?y")
	for _, x := range noUrlTexts {
		impl.ParseUrl(x.s)
		if u, fault := impl.ParseUrl("http://a.com/x?y"); u != want || fault != impl.UrlGood {
			t.Fatalf("%s: behind it ParseUrl answers %+v, %d", x.why, u, fault)
		}
	}
}
