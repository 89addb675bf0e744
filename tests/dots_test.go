package tests

import (
	"math/rand"
	"regexp"
	"strings"
	"testing"

	"loop.example/g00191/impl"
)

// What tells one dot.
var oneDot = []string{".", "%2e", "%2E"}

// What is a dot, or two of them, and nothing else.
var dotTexts = []struct {
	why, s string
	dots   int
}{
	{"a dot", ".", 1},
	{"a percent in small digits", "%2e", 1},
	{"a percent in great digits", "%2E", 1},
	{"two dots", "..", 2},
	{"two percents", "%2e%2e", 2},
	{"two percents in great digits", "%2E%2E", 2},
	{"two percents, the second in great digits", "%2e%2E", 2},
	{"two percents, the first in great digits", "%2E%2e", 2},
	{"a dot and a percent", ".%2e", 2},
	{"a dot and a percent in great digits", ".%2E", 2},
	{"a percent and a dot", "%2e.", 2},
	{"a percent in great digits and a dot", "%2E.", 2},
}

// What is no dot.
var noDots = []struct{ why, s string }{
	{"no bytes", ""},
	{"a letter", "a"},
	{"three dots", "..."},
	{"three percents", "%2e%2e%2e"},
	{"three, mixed", ".%2e."},
	{"three, mixed otherwise", "%2E.%2e"},
	{"four dots", "...."},
	{"a letter behind a dot", ".a"},
	{"a letter ahead of a dot", "a."},
	{"a letter behind two dots", "..a"},
	{"a letter ahead of two dots", "a.."},
	{"a letter between two dots", ".a."},
	{"a letter behind a percent", "%2ea"},
	{"a letter ahead of a percent", "a%2e"},
	{"a digit behind a percent", "%2e2"},
	{"a blank behind a dot", ". "},
	{"a blank ahead of a dot", " ."},
	{"a tab behind a dot", ".\t"},
	{"a line's end behind two dots", "..\n"},
	{"a byte 0 behind a dot", ".\x00"},
	{"a slash behind a dot", "./"},
	{"a slash ahead of a dot", "/."},
	{"a slash between two dots", "./."},
	{"a slash alone", "/"},
	{"a percent alone", "%"},
	{"a percent without its second digit", "%2"},
	{"a percent without its first digit", "%e"},
	{"a percent with a digit that is none", "%2g"},
	{"a percent with a digit ahead that is none", "%ge"},
	{"a dot and a percent alone", ".%"},
	{"a dot and a percent without its second digit", ".%2"},
	{"a percent without its second digit, and a dot", "%2."},
	{"a percent alone, and a dot", "%."},
	{"a percent within a percent", "%2%2e"},
	{"the digits alone", "2e"},
	{"a percent that tells a slash", "%2f"},
	{"a percent that tells a slash in great digits", "%2F"},
	{"a percent that tells the byte ahead of a dot", "%2d"},
	{"a percent that tells the digits turned", "%e2"},
	{"a percent that tells a percent ahead of a dot's digits", "%252e"},
	{"two of these", "%252e%252e"},
	{"a dot of another kind", "。"},
	{"a dot in more bytes than it needs", "\xc0\xae"},
	{"three dots in one rune", "…"},
	{"a bullet", "·"},
	{"a byte 255", "\xff"},
	{"a dot with the highest bit", "\xae"},
}

// Paths without dots, which stay as they are.
var plainPaths = []struct{ why, p string }{
	{"a slash alone", "/"},
	{"one part", "/a"},
	{"two parts", "/a/b"},
	{"an empty last part", "/a/"},
	{"two empty parts", "//"},
	{"three empty parts", "///"},
	{"an empty part ahead", "//a"},
	{"an empty part between", "/a//b"},
	{"empty parts between and at the end", "/a//b//"},
	{"three dots", "/..."},
	{"three dots between", "/a/.../b"},
	{"three dots at the end", "/a/..."},
	{"three percents", "/a/%2e%2e%2e"},
	{"a letter behind a dot", "/a/.b"},
	{"a letter ahead of a dot", "/a/b."},
	{"a letter behind two dots", "/a/..b"},
	{"a letter ahead of two dots", "/a/b.."},
	{"a letter between dots", "/a/.b./c"},
	{"a percent that is no dot's", "/a/%2f../b"},
	{"a percent that tells a slash between dots", "/a/..%2f../b"},
	{"a percent that tells a slash behind dots", "/a/..%2F"},
	{"a percent that tells a backslash between dots", "/a/..%5c../b"},
	{"a backslash, which is no slash", "/a\\..\\b"},
	{"a percent without its second digit", "/a/%2/b"},
	{"a percent without digits", "/a/%/b"},
	{"a percent with a digit that is none", "/a/%2g"},
	{"a percent that tells a percent", "/a/%252e%252e/b"},
	{"a query, which is a part's piece", "/a/..?b"},
	{"percents that are not plain", "/%61/%c3%a9"},
	{"runes", "/é/ü"},
	{"a blank", "/ "},
	{"a blank behind dots", "/.. /a"},
	{"a byte 255", "/\xff/a"},
	{"a byte 0", "/\x00/a"},
}

// Paths with dots, and the same without them.
var dottedPaths = []struct{ why, p, want string }{
	{"a dot alone", "/.", "/"},
	{"two dots alone", "/..", "/"},
	{"two ways back alone", "/../..", "/"},
	{"a dot and an empty last part", "/./", "/"},
	{"two dots and an empty last part", "/../", "/"},
	{"many dots", "/./././.", "/"},
	{"many ways back", "/../../../..", "/"},
	{"a dot between", "/a/./b", "/a/b"},
	{"a dot ahead", "/./a", "/a"},
	{"a dot as the last part", "/a/.", "/a/"},
	{"a dot as the last part but an empty one", "/a/./", "/a/"},
	{"two dots at the end, each alone", "/a/./.", "/a/"},
	{"a way back between", "/a/../b", "/b"},
	{"a way back behind two", "/a/b/../c", "/a/c"},
	{"a way back as the last part", "/a/..", "/"},
	{"a way back as the last part of three", "/a/b/..", "/a/"},
	{"a way back as the last part but an empty one", "/a/b/../", "/a/"},
	{"two ways back", "/a/b/../..", "/"},
	{"two ways back of three", "/a/b/c/../..", "/a/"},
	{"two ways back between", "/a/b/c/../../d", "/a/d"},
	{"two ways back, one behind the other", "/a/../b/../c", "/c"},
	{"more ways back than parts", "/a/../../b", "/b"},
	{"more ways back than parts, at the end", "/a/../..", "/"},
	{"more ways back than parts, then parts and one back", "/../../a/b/../c", "/a/c"},
	{"a way back ahead", "/../a", "/a"},
	{"a way back behind a dot takes the part ahead of it", "/a/./../b", "/b"},
	{"a dot behind a way back", "/a/.././b", "/b"},
	{"a dot behind a way back at the end", "/a/b/../.", "/a/"},
	{"a way back behind a dot at the end", "/a/b/./..", "/a/"},
	{"a way back takes an empty part", "/a//../b", "/a/b"},
	{"a way back takes one empty part of two", "/a///../b", "/a//b"},
	{"a way back takes an empty part at the end", "/a//..", "/a/"},
	{"two ways back take an empty part and one more", "/a//../..", "/"},
	{"a way back takes a part behind an empty one", "/a//b/../c", "/a//c"},
	{"a way back takes a part behind an empty one, at the end", "/a//b/..", "/a//"},
	{"a way back takes the first, an empty one", "//..", "/"},
	{"a way back takes the first, an empty one, ahead of a part", "//../a", "/a"},
	{"an empty part behind a way back", "/a/..//b", "//b"},
	{"an empty part behind a way back that has none", "/..//b", "//b"},
	{"empty parts behind a way back", "/a/..//", "//"},
	{"an empty part behind a dot", "/.//a", "//a"},
	{"a way back does not take an empty one at the end of what a dot left", "/a/./../", "/"},
	{"a dot by a percent", "/a/%2e/b", "/a/b"},
	{"a dot by a percent in great digits", "/a/%2E/b", "/a/b"},
	{"a dot by a percent as the last part", "/a/%2e", "/a/"},
	{"a way back by percents", "/a/%2e%2e/b", "/b"},
	{"a way back by percents in great digits", "/a/%2E%2E/b", "/b"},
	{"a way back by percents of both", "/a/%2E%2e/b", "/b"},
	{"a way back, mixed", "/a/.%2e/b", "/b"},
	{"a way back, mixed otherwise", "/a/%2E./b", "/b"},
	{"a way back, mixed, as the last part", "/a/b/.%2E", "/a/"},
	{"a way back ahead by percents", "/%2e%2E/x", "/x"},
	{"a way back takes three dots", "/a/.../../b", "/a/b"},
	{"a way back takes a part that begins with a dot", "/a/.b/../c", "/a/c"},
	{"a way back takes a percent that tells a slash", "/a/b%2fc/../d", "/a/d"},
	{"a way back takes a part with a percent that has no digits", "/a/%2/../d", "/a/d"},
	{"a dot, and parts that are not plain", "/./%61/%/é", "/%61/%/é"},
	{"a dot at the end behind an empty part", "/a//.", "/a//"},
	{"a dot between empty parts", "//./", "//"},
	{"a dot at the end behind three dots", "/.../.", "/.../"},
}

// Texts that do not begin with a slash, and stay as they are.
var noPaths = []struct{ why, p string }{
	{"no bytes", ""},
	{"a dot", "."},
	{"two dots", ".."},
	{"a percent", "%2e"},
	{"a way back behind a part", "a/../b"},
	{"a dot behind a part", "a/."},
	{"a way back ahead", "../a"},
	{"a dot ahead", "./a"},
	{"a blank ahead of the slash", " /a/../b"},
	{"a backslash ahead", "\\a/../b"},
	{"a percent that tells a slash ahead", "%2f../a"},
	{"a slash at the end alone", "../"},
	{"a part alone", "a"},
	{"a byte 0 ahead", "\x00/.."},
	{"a byte 255 ahead", "\xff/./a"},
	{"an address", "http://a/../b"},
}

var (
	oneDotAlone = regexp.MustCompile(`\A(\.|%2[eE])\z`)
	twoDotsOnly = regexp.MustCompile(`\A(\.|%2[eE]){2}\z`)
)

// wantDots goes by a pattern of the whole text.
func wantDots(s string) int {
	switch {
	case oneDotAlone.MatchString(s):
		return 1
	case twoDotsOnly.MatchString(s):
		return 2
	}
	return 0
}

// wantDropped goes from the last part to the first, and counts the ways back
// that no part was taken for yet.
func wantDropped(p string) string {
	if p == "" || p[0] != '/' {
		return p
	}
	parts := strings.Split(p, "/")
	texts := []string{}
	back := 0
	for at := len(parts) - 1; at > 0; at-- {
		dots := wantDots(parts[at])
		if dots > 0 && at == len(parts)-1 {
			texts = append(texts, "/")
		}
		switch {
		case dots == 2:
			back++
		case dots == 0 && back > 0:
			back--
		case dots == 0:
			texts = append(texts, "/"+parts[at])
		}
	}
	var text strings.Builder
	for at := len(texts) - 1; at >= 0; at-- {
		text.WriteString(texts[at])
	}
	return text.String()
}

func wantUpTo(p string) string {
	for p != "" && !strings.HasSuffix(p, "/") {
		p = p[:len(p)-1]
	}
	return p
}

func wantDepth(p string) int {
	return len(strings.Split(p, "/")) - 1
}

func checkDots(t *testing.T, s string) {
	t.Helper()
	if dots, want := impl.IsDot(s), wantDots(s); dots != want {
		t.Errorf("IsDot of %q: %d, not %d", s, dots, want)
	}
}

// checkPath holds what the functions answer against the tellings above, and
// against promise 7.
func checkPath(t *testing.T, p string) {
	t.Helper()
	dropped := impl.DropDots(p)
	if want := wantDropped(p); dropped != want {
		t.Errorf("DropDots of %q: %q, not %q", p, dropped, want)
	}
	if up, want := impl.UpTo(p), wantUpTo(p); up != want {
		t.Errorf("UpTo of %q: %q, not %q", p, up, want)
	}
	if depth, want := impl.Depth(p), wantDepth(p); depth != want {
		t.Errorf("Depth of %q: %d, not %d", p, depth, want)
	}
	checkDropped(t, p, dropped)
}

func checkDropped(t *testing.T, p, dropped string) {
	t.Helper()
	if again := impl.DropDots(dropped); again != dropped {
		t.Errorf("DropDots of %q, of %q: %q", dropped, p, again)
	}
	if !strings.HasPrefix(p, "/") {
		return
	}
	if !strings.HasPrefix(dropped, "/") {
		t.Errorf("DropDots of %q: %q, without a slash ahead", p, dropped)
	}
	had, has := hasDots(p), hasDots(dropped)
	if has {
		t.Errorf("DropDots of %q: %q, which has dots", p, dropped)
	}
	if had == (dropped == p) {
		t.Errorf("DropDots of %q: %q, though it has dots: %v", p, dropped, had)
	}
}

func hasDots(p string) bool {
	for _, part := range strings.Split(p, "/") {
		if impl.IsDot(part) > 0 {
			return true
		}
	}
	return false
}

func TestDotTexts(t *testing.T) {
	for _, x := range dotTexts {
		if dots := impl.IsDot(x.s); dots != x.dots {
			t.Errorf("%s: IsDot of %q: %d, not %d", x.why, x.s, dots, x.dots)
		}
		checkDots(t, x.s)
	}
}

func TestNoDots(t *testing.T) {
	for _, x := range noDots {
		if dots := impl.IsDot(x.s); dots != 0 {
			t.Errorf("%s: IsDot of %q: %d", x.why, x.s, dots)
		}
		checkDots(t, x.s)
	}
}

func TestDotsOfEveryForm(t *testing.T) {
	for _, first := range oneDot {
		for _, second := range oneDot {
			two := first + second
			for path, want := range map[string]string{
				"/" + first:               "/",
				"/" + two:                 "/",
				"/a/b/" + first:           "/a/b/",
				"/a/b/" + two:             "/a/",
				"/a/b/" + first + "/c":    "/a/b/c",
				"/a/b/" + two + "/c":      "/a/c",
				"/a/b/" + first + "/":     "/a/b/",
				"/a/b/" + two + "/":       "/a/",
				"/a/b/" + two + first:     "/a/b/" + two + first,
				"/a/b/" + two + "x":       "/a/b/" + two + "x",
				"/a/b/x" + two:            "/a/b/x" + two,
				first + "/a/" + two:       first + "/a/" + two,
				"/a/" + two + "%2f" + two: "/a/" + two + "%2f" + two,
			} {
				if dropped := impl.DropDots(path); dropped != want {
					t.Errorf("DropDots of %q: %q, not %q", path, dropped, want)
				}
				checkPath(t, path)
			}
		}
	}
}

func TestDotsOfEveryByte(t *testing.T) {
	for c := range 256 {
		for _, b := range []string{oneByte(c), wantPercent(c, smallDigits), wantPercent(c, greatDigits)} {
			for _, s := range []string{b, b + b, b + ".", "." + b, b + "%2e", "%2E" + b, ".." + b, b + "..", "." + b + "."} {
				checkDots(t, s)
				for _, p := range []string{"/" + s, "/a/b/" + s, "/a/b/" + s + "/c", s + "/..", "/a" + s + "/../b"} {
					checkPath(t, p)
				}
			}
		}
		for _, b := range []string{"%" + oneByte(c) + "e", "%2" + oneByte(c), oneByte(c) + "2e"} {
			checkDots(t, b)
			checkPath(t, "/a/"+b+"/b")
		}
	}
}

func TestDotsOfEveryShortText(t *testing.T) {
	eachText(".%2eE", 6, func(s string) { checkDots(t, s) })
	eachText(".%2ef/", 6, func(s string) { checkPath(t, "/"+s) })
	eachText("./a", 9, func(s string) { checkPath(t, s) })
}

func TestPlainPaths(t *testing.T) {
	for _, x := range plainPaths {
		if dropped := impl.DropDots(x.p); dropped != x.p {
			t.Errorf("%s: DropDots of %q: %q", x.why, x.p, dropped)
		}
		checkPath(t, x.p)
	}
}

func TestDottedPaths(t *testing.T) {
	for _, x := range dottedPaths {
		if dropped := impl.DropDots(x.p); dropped != x.want {
			t.Errorf("%s: DropDots of %q: %q, not %q", x.why, x.p, dropped, x.want)
		}
		checkPath(t, x.p)
		checkPath(t, x.want)
	}
}

func TestNoPaths(t *testing.T) {
	for _, x := range noPaths {
		if dropped := impl.DropDots(x.p); dropped != x.p {
			t.Errorf("%s: DropDots of %q: %q", x.why, x.p, dropped)
		}
		checkPath(t, x.p)
	}
}

func TestUpToAndDepth(t *testing.T) {
	for _, x := range []struct {
		why, p, up string
		depth      int
	}{
		{"no bytes", "", "", 0},
		{"a text without a slash", "a", "", 0},
		{"dots without a slash", "..", "", 0},
		{"a percent that tells a slash", "a%2fb", "", 0},
		{"a backslash", "a\\b", "", 0},
		{"a slash", "/", "/", 1},
		{"two slashes", "//", "//", 2},
		{"one part", "/a", "/", 1},
		{"an empty last part", "/a/", "/a/", 2},
		{"two parts", "/a/b", "/a/", 2},
		{"an empty part", "/a//b", "/a//", 3},
		{"empty parts at the end", "/a///", "/a///", 4},
		{"no slash ahead", "a/b", "a/", 1},
		{"a slash at the end alone", "a/", "a/", 1},
		{"dots stay", "/a/../b", "/a/../", 3},
		{"dots at the end are no slash", "/a/..", "/a/", 2},
		{"a percent behind the last slash", "/a/b%2fc", "/a/", 2},
		{"a backslash behind the last slash", "/a/b\\c", "/a/", 2},
		{"a slash in a query counts", "/a?b/c", "/a?b/", 2},
		{"an address", "http://a/b", "http://a/", 3},
		{"bytes that are no text", "\xff/\xfe", "\xff/", 1},
		{"a byte 0", "\x00/\x00", "\x00/", 1},
		{"a slash in more bytes than it needs", "\xc0\xaf", "", 0},
	} {
		if up := impl.UpTo(x.p); up != x.up {
			t.Errorf("%s: UpTo of %q: %q, not %q", x.why, x.p, up, x.up)
		}
		if depth := impl.Depth(x.p); depth != x.depth {
			t.Errorf("%s: Depth of %q: %d, not %d", x.why, x.p, depth, x.depth)
		}
		checkPath(t, x.p)
	}
}

func TestDotsOfManyPaths(t *testing.T) {
	turn := rand.New(rand.NewSource(9))
	pieces := []string{"/", "/", "/", "/..", "/.", "..", ".", "%2e", "%2E", "/%2e.", "/.%2E", "a", "/b", "/c/d", "%2f", "%", "%2", "é", "\\", "\xff"}
	for range 100000 {
		var p strings.Builder
		for range turn.Intn(14) {
			p.WriteString(pieces[turn.Intn(len(pieces))])
		}
		checkPath(t, p.String())
		checkPath(t, "/"+p.String())
	}
}

func TestDotsOfLongPaths(t *testing.T) {
	many := 50000
	for _, x := range []struct{ p, want string }{
		{strings.Repeat("/a", many), strings.Repeat("/a", many)},
		{strings.Repeat("/..", many), "/"},
		{strings.Repeat("/.", many), "/"},
		{strings.Repeat("/", many), strings.Repeat("/", many)},
		{strings.Repeat("/a", many) + strings.Repeat("/..", many), "/"},
		{strings.Repeat("/a", many) + strings.Repeat("/..", many-1), "/a/"},
		{strings.Repeat("/a", many) + strings.Repeat("/..", many+1) + "/b", "/b"},
		{strings.Repeat("/a/..", many) + "/b", "/b"},
		{"/" + strings.Repeat(".", many), "/" + strings.Repeat(".", many)},
		{"/" + strings.Repeat("%2e", many), "/" + strings.Repeat("%2e", many)},
	} {
		if dropped := impl.DropDots(x.p); dropped != x.want {
			t.Errorf("DropDots of %d bytes that begin with %q: %d bytes, not %d", len(x.p), x.p[:6], len(dropped), len(x.want))
		}
	}
}

func TestDotsAreNewMemory(t *testing.T) {
	for _, p := range []string{"/", "/a", "/a/b", "/a/../b", "/a/.", "a", "a/b", "../a/b/"} {
		p = strings.Clone(p)
		if dropped := impl.DropDots(p); lies(dropped, p) {
			t.Errorf("DropDots of %q lies in its argument's memory", p)
		}
		if up := impl.UpTo(p); up != "" && lies(up, p) {
			t.Errorf("UpTo of %q lies in its argument's memory", p)
		}
	}
}
