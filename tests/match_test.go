package tests

import (
	"math/rand"
	"slices"
	"strings"
	"testing"
	"time"

	"loop.example/g00191/impl"
)

var matchTexts = []struct {
	why, pattern, path string
	matches            bool
}{
	{"the path itself", "/a/b", "/a/b", true},
	{"the root itself", "/", "/", true},
	{"begins it", "/a", "/a/b", true},
	{"begins it, within a part", "/a", "/abc", true},
	{"the root begins it", "/", "/a/b?c", true},
	{"ends it alone", "b", "/a/b", false},
	{"stands in its midst alone", "a", "/a/b", false},
	{"longer than it", "/a/b", "/a", false},
	{"longer than it by one byte", "/a/", "/a", false},
	{"longer than the root", "/a", "/", false},
	{"none of it", "/x", "/a/b", false},
	{"differs at its last byte", "/ab", "/ac", false},
	{"differs at its first byte", "xa", "/a", false},
	{"differs in its midst", "/axb", "/ayb", false},
	{"great letters are others", "/A", "/a", false},
	{"small letters are others", "/a", "/A", false},
	{"a query", "/a?b", "/a?b=c", true},
	{"a question mark is a byte", "/a?b", "/axb", false},
	{"a dot is a byte", "/a.b", "/axb", false},
	{"a plus is a byte", "/a+", "/aaa", false},
	{"brackets are bytes", "/(a)", "/a", false},
	{"percents are bytes", "/%41", "/A", false},
	{"a percent of a star is no star", "/%2A", "/abc", false},
	{"a percent of a star is itself", "/%2A", "/%2Ab", true},
	{"a percent of a dollar is no end", "/a%24", "/a", false},
	{"a percent of a dollar is itself", "/a%24", "/a%24b", true},
	{"a star within a percent", "/%2*A", "/%2A", true},

	{"an empty pattern", "", "/a", true},
	{"an empty path", "/", "", false},
	{"both empty", "", "", true},

	{"a star alone", "*", "/a/b", true},
	{"a star alone, an empty path", "*", "", true},
	{"a star ahead", "*b", "/a/b/c", true},
	{"a star ahead of what is not there", "*x", "/a/b", false},
	{"a star ahead, at once", "*/a", "/a", true},
	{"a star ahead, at the end", "*c", "/a/b/c", true},
	{"a star ahead, an empty path", "*a", "", false},
	{"a star in the middle", "/a*c", "/a/b/c/d", true},
	{"a star in the middle that takes nothing", "/a*c", "/acd", true},
	{"a star in the middle, and it ends ahead", "/a*c", "/a", false},
	{"a star in the middle, and it is not behind", "/a*c", "/a/b", false},
	{"a star in the middle, and it is ahead alone", "/c*a", "/ac", false},
	{"a star in the middle, bytes are not taken twice", "/a*a", "/a", false},
	{"a star in the middle, bytes that overlap", "/aba*ba", "/aba", false},
	{"a star in the middle, bytes that overlap, and are there", "/aba*ba", "/ababa", true},
	{"a star in the middle, another beginning", "/a*c", "/b/c", false},
	{"a star at the end", "/a*", "/a/b", true},
	{"a star at the end that takes nothing", "/a*", "/a", true},
	{"a star at the end, another beginning", "/a*", "/b", false},
	{"a star at the end, a path that is too short", "/a*", "/", false},
	{"two stars side by side", "/a**c", "/a/b/c", true},
	{"two stars side by side that take nothing", "/a**c", "/ac", true},
	{"two stars side by side, and it is not behind", "/a**c", "/a/b", false},
	{"two stars alone", "**", "/a", true},
	{"two stars alone, an empty path", "**", "", true},
	{"many stars, an empty path", "*****", "", true},
	{"two stars apart", "/a*b*c", "/axbxc", true},
	{"two stars apart, the order is told", "/a*b*c", "/axcxb", false},
	{"two stars apart, the order is told, and comes", "/a*b*c", "/axcxbxc", true},
	{"two stars apart, bytes are not taken twice", "/*ab*b", "/ab", false},
	{"a star takes slashes", "/a*z", "/a/b/c/z", true},
	{"a star takes a question mark", "/a*z", "/a?b=z", true},
	{"a star takes a star", "/a*z", "/a*z", true},
	{"a star in the path is a byte", "/ab", "/a*", false},
	{"a star in the path is no sign", "/a", "*", false},
	{"a star that must take more than at first", "*ab$", "/abab", true},
	{"a star that must take more, without an end", "*aab", "/aaab", true},
	{"a star that must take more, twice", "*aab*aab", "/aaabaaab", true},

	{"a dollar at the end", "/a$", "/a", true},
	{"a dollar at the end, more behind", "/a$", "/a/b", false},
	{"a dollar at the end, one byte behind", "/a$", "/ab", false},
	{"a dollar at the end, a path that is too short", "/ab$", "/a", false},
	{"a dollar at the end is no byte", "/a$", "/a$", false},
	{"a dollar at the end of the root", "/$", "/", true},
	{"a dollar at the end of the root, more behind", "/$", "/a", false},
	{"a dollar at the end of the root, a query behind", "/$", "/?", false},
	{"a dollar alone, an empty path", "$", "", true},
	{"a dollar alone", "$", "/", false},
	{"a dollar alone, a path of it", "$", "$", false},
	{"a star and a dollar", "*$", "/a/b", true},
	{"a star and a dollar, an empty path", "*$", "", true},
	{"two stars and a dollar", "**$", "/a", true},
	{"a star and a dollar behind a beginning", "/a*$", "/a/b", true},
	{"a star and a dollar behind a beginning, nothing more", "/a*$", "/a", true},
	{"a star and a dollar behind another beginning", "/a*$", "/b", false},
	{"an ending", "*.html$", "/a/b.html", true},
	{"an ending, more behind", "*.html$", "/a/b.html?c", false},
	{"an ending that comes twice", "*.html$", "/a.html/b.html", true},
	{"an ending that comes ahead alone", "*.html$", "/a.html/b", false},
	{"an ending, behind a beginning", "/a*b$", "/ab", true},
	{"an ending, bytes are not taken twice", "/a*a$", "/a", false},
	{"an ending, bytes that overlap", "/aba*ba$", "/aba", false},
	{"an ending, bytes of the piece ahead", "/*ab*b$", "/ab", false},
	{"an ending, bytes of the piece ahead, and more", "/*ab*b$", "/abb", true},
	{"an ending that is longer than what is left", "/a*bcd$", "/acd", false},
	{"an ending, the piece ahead is there twice", "/*ab*ab$", "/abab", true},
	{"an ending, the piece ahead is there once", "/*ab*ab$", "/xab", false},
	{"a dollar in the middle is a byte", "/a$b", "/a$bc", true},
	{"a dollar in the middle, a path without", "/a$b", "/ab", false},
	{"a dollar in the middle is no end", "/a$b", "/a", false},
	{"a dollar ahead is a byte", "$/a", "$/a", true},
	{"a dollar ahead is no end", "$/a", "/a", false},
	{"a dollar ahead of a star is a byte", "/a$*", "/a$b", true},
	{"a dollar ahead of a star is no end", "/a$*", "/a", false},
	{"a dollar behind a star, more behind it", "*$a", "/x$a", true},
	{"a dollar behind a star, more behind it, none there", "*$a", "/xa", false},
	{"two dollars", "$$", "$", true},
	{"two dollars, an empty path", "$$", "", false},
	{"two dollars, a path of two", "$$", "$$", false},
	{"two dollars at the end", "/a$$", "/a$", true},
	{"two dollars at the end, none there", "/a$$", "/a", false},
	{"two dollars at the end, more behind", "/a$$", "/a$b", false},
	{"three dollars", "$$$", "$$", true},
	{"three dollars, one there", "$$$", "$", false},
	{"a star and two dollars", "*$$", "/a$", true},
	{"a star and two dollars, none there", "*$$", "/a", false},

	{"no pattern's: a line's end", "/a\nb", "/a\nbc", true},
	{"no pattern's: a line's end, a star ahead", "*\nb", "/a\nb", true},
	{"no pattern's: a star takes line's ends", "/a*b", "/a\n\r\nb", true},
	{"no pattern's: a dollar asks for the very end", "/a$", "/a\n", false},
	{"no pattern's: a byte 0", "/a\x00", "/a\x00b", true},
	{"no pattern's: a byte 0 ends nothing", "/a\x00b", "/a", false},
	{"no pattern's: bytes that are no runes", "\xff*\xfe$", "\xff\x80\xc3\xfe", true},
	{"no pattern's: half a rune", "/\xc3", "/é", true},
	{"no pattern's: half a rune behind a star", "*\xa9$", "/é", true},
	{"no pattern's: bytes that are no runes are not one another", "\xff", "\xfe", false},
	{"no pattern's: the rune for what is no rune", "\ufffd", "\xff", false},
	{"no pattern's: a remark's mark", "/#", "/#x", true},
	{"no pattern's: blanks are bytes", " /a", "/a", false},

	{"no slash first: the same", "a", "a", true},
	{"no slash first: begins it", "a", "ab", true},
	{"no slash first: a pattern with one", "/a", "a", false},
	{"no slash first: a star", "*/b", "a/b", true},
	{"no slash first: the root", "/", "a/", false},
}

// wantMatches keeps all places of the path that the pattern so far may end at.
func wantMatches(pattern, path string) bool {
	ends := strings.HasSuffix(pattern, "$")
	if ends {
		pattern = pattern[:len(pattern)-1]
	}
	may := make([]bool, len(path)+1)
	may[0] = true
	for _, c := range []byte(pattern) {
		next := make([]bool, len(path)+1)
		reached := false
		for at, ok := range may {
			reached = reached || ok
			if c == '*' {
				next[at] = reached
			} else if ok && at < len(path) && path[at] == c {
				next[at+1] = true
			}
		}
		may = next
	}
	return ends && may[len(path)] || !ends && slices.Contains(may, true)
}

// wantBest puts the lines that match into the order in which they decide.
func wantBest(l lines, path string) int {
	matching := []int{}
	for place := range l {
		if wantMatches(l[place].Pattern, path) {
			matching = append(matching, place)
		}
	}
	slices.SortStableFunc(matching, func(a, b int) int {
		if by := len(l[b].Pattern) - len(l[a].Pattern); by != 0 || l[a].Allow == l[b].Allow {
			return by
		}
		return map[bool]int{true: -1, false: 1}[l[a].Allow]
	})
	return append(matching, -1)[0]
}

func wantAllowed(l lines, path string) bool {
	best := wantBest(l, path)
	return path == "/robots.txt" || best == -1 || l[best].Allow
}

// checkMatch asks for what holds of every pattern without an end, too: with a
// star behind it, it matches the same, and more of the path changes nothing.
func checkMatch(t *testing.T, pattern, path string) {
	t.Helper()
	matches := impl.Matches(pattern, path)
	if want := wantMatches(pattern, path); matches != want {
		t.Fatalf("Matches(%q, %q) = %v; want %v", pattern, path, matches, want)
	}
	if strings.HasSuffix(pattern, "$") {
		return
	}
	if impl.Matches(pattern+"*", path) != matches || impl.Matches(pattern+"*$", path) != matches {
		t.Fatalf("Matches(%q, %q) = %v; with a star behind it, another", pattern, path, matches)
	}
	if matches && !impl.Matches(pattern, path+"/x") {
		t.Fatalf("Matches(%q, %q), but not with more behind the path", pattern, path)
	}
}

// checkDecides holds the promise against the words of the chapter: what
// decides matches, and nothing that matches is ahead of it.
func checkDecides(t *testing.T, l lines, path string, best int) {
	t.Helper()
	if best < -1 || best >= len(l) || best >= 0 && !impl.Matches(l[best].Pattern, path) {
		t.Fatalf("Best(%v, %q) = %d, which does not match", l, path, best)
	}
	for place, line := range l {
		if !impl.Matches(line.Pattern, path) {
			continue
		}
		if best == -1 {
			t.Fatalf("Best(%v, %q) = -1, but %d matches", l, path, place)
		}
		more := len(line.Pattern) - len(l[best].Pattern)
		if more > 0 || more == 0 && line.Allow && !l[best].Allow || more == 0 && line.Allow == l[best].Allow && place < best {
			t.Fatalf("Best(%v, %q) = %d; %d is ahead of it", l, path, best, place)
		}
	}
}

func checkBest(t *testing.T, l lines, path string) {
	t.Helper()
	best := impl.Best(l, path)
	if want := wantBest(l, path); best != want {
		t.Fatalf("Best(%v, %q) = %d; want %d", l, path, best, want)
	}
	checkDecides(t, l, path, best)
	if allowed, want := impl.Allowed(l, path), wantAllowed(l, path); allowed != want {
		t.Fatalf("Allowed(%v, %q) = %v; want %v", l, path, allowed, want)
	}
	if forbids, want := impl.Forbids(l), !wantAllowed(l, "/"); forbids != want {
		t.Fatalf("Forbids(%v) = %v; want %v", l, forbids, want)
	}
}

// checkShorter puts a line more at each place: where a longer one matches, it
// decides as it did.
func checkShorter(t *testing.T, l lines, path string, more impl.Line) {
	t.Helper()
	best := impl.Best(l, path)
	if best == -1 || len(more.Pattern) >= len(l[best].Pattern) {
		return
	}
	for place := range len(l) + 1 {
		with := slices.Insert(slices.Clone(l), place, more)
		moved := best
		if place <= best {
			moved++
		}
		if b := impl.Best(with, path); b != moved {
			t.Fatalf("Best(%v, %q) = %d; with %v at %d it is %d", l, path, best, more, place, b)
		}
		if impl.Allowed(with, path) != impl.Allowed(l, path) {
			t.Fatalf("Allowed(%v, %q) is another with %v at %d", l, path, more, place)
		}
		if best := impl.Best(l, "/"); best >= 0 && len(more.Pattern) < len(l[best].Pattern) && impl.Forbids(with) != impl.Forbids(l) {
			t.Fatalf("Forbids(%v) is another with %v at %d", l, more, place)
		}
	}
}

func TestMatchTexts(t *testing.T) {
	for _, x := range matchTexts {
		if matches := impl.Matches(x.pattern, x.path); matches != x.matches {
			t.Errorf("%s: Matches(%q, %q) = %v", x.why, x.pattern, x.path, matches)
		}
		checkMatch(t, x.pattern, x.path)
		for _, allows := range []bool{true, false} {
			l := lines{{Allow: allows, Pattern: x.pattern}}
			if best := impl.Best(l, x.path); (best == 0) != x.matches || best > 0 {
				t.Errorf("%s: Best(%v, %q) = %d", x.why, l, x.path, best)
			}
			if allowed := impl.Allowed(l, x.path); allowed != (allows || !x.matches) {
				t.Errorf("%s: Allowed(%v, %q) = %v", x.why, l, x.path, allowed)
			}
		}
	}
}

// What a byte of a pattern is: itself, but for the two signs.
func TestMatchesOfEveryByte(t *testing.T) {
	for c := range 256 {
		b := oneByte(c)
		for d := range 256 {
			p := oneByte(d)
			checkMatch(t, b, p)
			checkMatch(t, "/"+b+"x", "/"+p+"x")
			checkMatch(t, "*"+b, "/"+p)
			checkMatch(t, b+"$", p)
			if same := impl.Matches("/"+b+"x", "/"+p+"x"); same != (c == d || b == "*") {
				t.Fatalf("the byte %d of a pattern, the byte %d of a path: %v", c, d, same)
			}
		}
	}
}

func TestMatchesOfEveryShortText(t *testing.T) {
	paths := []string{}
	eachText("ab$*", 4, func(s string) { paths = append(paths, s) })
	eachText("ab", 7, func(s string) { paths = append(paths, s) })
	eachText("ab*$", 5, func(pattern string) {
		for _, path := range paths {
			if matches := impl.Matches(pattern, path); matches != wantMatches(pattern, path) {
				t.Fatalf("Matches(%q, %q) = %v", pattern, path, matches)
			}
		}
	})
}

func TestMatchesOfManyPieces(t *testing.T) {
	turn := rand.New(rand.NewSource(18))
	some := func(of []string, most int) string {
		s := ""
		for range turn.Intn(most) {
			s += of[turn.Intn(len(of))]
		}
		return s
	}
	for range 60000 {
		pattern := some([]string{"*", "*", "a", "ab", "aab", "/", "$"}, 9) + []string{"", "$", "*", "*$"}[turn.Intn(4)]
		checkMatch(t, pattern, some([]string{"a", "ab", "aab", "b", "/", "$"}, 20))
	}
	for range 5000 {
		path := some([]string{"/", "a", "b", "%2A", "?", ".html", "$", "*"}, 12)
		pattern := ""
		for _, c := range []byte(path) {
			pattern += []string{string([]byte{c}), string([]byte{c}), string([]byte{c}), "*", "*" + string([]byte{c}), string([]byte{c}) + "*"}[turn.Intn(6)]
		}
		checkMatch(t, pattern, path)
		checkMatch(t, pattern+"$", path)
		if !impl.Matches(pattern+"*", path) || !impl.Matches(pattern+"$", path) {
			t.Fatalf("Matches(%q, %q), told of the path itself, is false", pattern, path)
		}
	}
}

// soon fails where a call goes through more places than it need, instead of
// waiting for it.
func soon(t *testing.T, why string, ask func() bool, want bool) {
	t.Helper()
	answer := make(chan bool, 1)
	go func() { answer <- ask() }()
	select {
	case got := <-answer:
		if got != want {
			t.Errorf("%s: %v; want %v", why, got, want)
		}
	case <-time.After(time.Minute):
		t.Fatalf("%s: no answer within a minute", why)
	}
}

func TestMatchesOfVeryMany(t *testing.T) {
	as := strings.Repeat("a", 100000)
	for _, x := range []struct {
		why, pattern, path string
		matches            bool
	}{
		{"many stars, and it is not there", strings.Repeat("*a", 30) + "*b", as, false},
		{"many stars, an end that is not there", strings.Repeat("a*", 30) + "b$", as, false},
		{"very many stars, and it is not there", strings.Repeat("*a", 10000) + "b", as, false},
		{"very many stars, and they are there", strings.Repeat("*a", 100000), as, true},
		{"very many stars, and an end", strings.Repeat("*a", 100000) + "$", as, true},
		{"very many stars, one piece too many", strings.Repeat("*a", 100001), as, false},
		{"very many stars, one piece too many, and an end", strings.Repeat("*a", 100001) + "$", as, false},
		{"stars alone", strings.Repeat("*", 100000), as, true},
		{"stars alone, and an end", strings.Repeat("*", 100000) + "$", "", true},
		{"stars alone, and what is not there", strings.Repeat("*", 100000) + "b", as, false},
		{"a long piece that is nearly there", "*" + as[:50000] + "b", as, false},
		{"a long piece that is there", "*" + as[:50000] + "b", as + "b", true},
		{"long pieces that are nearly there", strings.Repeat("*"+as[:1000], 50) + "*b", as, false},
		{"long pieces of two bytes", strings.Repeat("*"+as[:10]+"b", 1000), strings.Repeat(as[:11]+"b", 1000), true},
		{"dollars", strings.Repeat("$", 100001), strings.Repeat("$", 100000), true},
		{"a long path", as, as, true},
		{"a long path, one byte more", as + "a", as, false},
		{"a long path, and an end", as + "$", as, true},
		{"a long path, and an end ahead of its last byte", as[1:] + "$", as, false},
	} {
		soon(t, x.why, func() bool { return impl.Matches(x.pattern, x.path) }, x.matches)
		soon(t, x.why+", as a line", func() bool { return !impl.Allowed(lines{disallow(x.pattern)}, x.path) }, x.matches)
	}
	l := slices.Repeat(lines{disallow(strings.Repeat("*a", 30) + "*b"), allow("/a")}, 10000)
	soon(t, "very many lines", func() bool { return impl.Best(l, "/"+as[:1000]) == 1 }, true)
}

var bestLines = []struct {
	why     string
	l       lines
	path    string
	best    int
	allowed bool
}{
	{"no lines", nil, "/a", -1, true},
	{"no lines, an empty path", nil, "", -1, true},
	{"an empty list", lines{}, "/", -1, true},
	{"one that allows", lines{allow("/a")}, "/a", 0, true},
	{"one that forbids", lines{disallow("/a")}, "/a", 0, false},
	{"one that allows, another path", lines{allow("/a")}, "/b", -1, true},
	{"one that forbids, another path", lines{disallow("/a")}, "/b", -1, true},
	{"none that match", lines{disallow("/a"), allow("/b"), disallow("/ab")}, "/c", -1, true},
	{"both, the longer allows", lines{disallow("/"), allow("/a")}, "/a", 1, true},
	{"both, the longer allows, first", lines{allow("/a"), disallow("/")}, "/a", 0, true},
	{"both, the longer forbids", lines{allow("/"), disallow("/a")}, "/a", 1, false},
	{"both, the longer forbids, first", lines{disallow("/a"), allow("/")}, "/a", 0, false},
	{"the longest does not match", lines{disallow("/"), allow("/a/b")}, "/a", 0, false},
	{"the longest does not match, first", lines{disallow("/a/b"), allow("/")}, "/a", 1, true},
	{"several lengths, ascending", lines{disallow("/"), allow("/a"), disallow("/a/"), allow("/a/b")}, "/a/b", 3, true},
	{"several lengths, descending", lines{allow("/a/b"), disallow("/a/"), allow("/a"), disallow("/")}, "/a/b", 0, true},
	{"several lengths, mixed", lines{allow("/a"), disallow("/a/"), disallow("/"), allow("/a/b")}, "/a/c", 1, false},
	{"several lengths, the longest in the middle", lines{allow("/a"), disallow("/a/b"), allow("/a/")}, "/a/b", 1, false},

	{"two as long that forbid", lines{disallow("/a"), disallow("/*")}, "/a", 0, false},
	{"two as long that forbid, one alone matches", lines{disallow("/b"), disallow("/*")}, "/a", 1, false},
	{"two as long that allow", lines{allow("/a"), allow("/*")}, "/a", 0, true},
	{"two as long, the first allows", lines{allow("/a"), disallow("/*")}, "/a", 0, true},
	{"two as long, the last allows", lines{disallow("/a"), allow("/*")}, "/a", 1, true},
	{"two as long, the one that allows does not match", lines{disallow("/a"), allow("/b")}, "/a", 0, false},
	{"three as long, the middle one allows", lines{disallow("/a"), allow("/*"), disallow("*a")}, "/a", 1, true},
	{"three as long, the last two allow", lines{disallow("/a"), allow("/*"), allow("*a")}, "/a", 1, true},
	{"three as long, the first and the last allow", lines{allow("/a"), disallow("/*"), allow("*a")}, "/a", 0, true},
	{"one line twice", lines{disallow("/a"), disallow("/a")}, "/a", 0, false},
	{"one line twice, allowed and not", lines{disallow("/a"), allow("/a"), disallow("/a"), allow("/a")}, "/a", 1, true},
	{"as long ones that allow, a longer one that forbids", lines{allow("/a"), allow("/*"), disallow("/a*")}, "/a", 2, false},
	{"as long ones that allow, a longer one that forbids, first", lines{disallow("/a*"), allow("/a"), allow("/*")}, "/a", 0, false},
	{"shorter ones that allow count for nothing", lines{allow("/"), disallow("/a"), allow("*")}, "/a", 1, false},
	{"a shorter one that allows behind as long ones", lines{disallow("/ab"), disallow("/a*"), allow("/a")}, "/ab", 0, false},
	{"a longer one behind one that allows", lines{disallow("/"), allow("*"), disallow("/a")}, "/a", 2, false},

	{"a star counts as a byte", lines{disallow("/a*"), allow("/a")}, "/ab", 0, false},
	{"two stars count as two", lines{allow("/a*"), disallow("/a**")}, "/a", 1, false},
	{"stars make a pattern longer than what is told", lines{allow("/abc"), disallow("/****")}, "/abc", 1, false},
	{"a dollar counts as a byte", lines{allow("/a"), disallow("/a$")}, "/a", 1, false},
	{"a dollar counts as a byte, as long", lines{disallow("/a$"), allow("/a*")}, "/a", 1, true},
	{"both signs count", lines{allow("/ab"), disallow("/a*$")}, "/ab", 1, false},
	{"a percent counts as three bytes", lines{allow("/a*"), disallow("/%20")}, "/%20", 1, false},
	{"a percent counts as three bytes, beside as long ones", lines{disallow("/%20"), allow("/***")}, "/%20", 1, true},
	{"bytes count, not what they match", lines{allow("*"), disallow("/a")}, "/a/b/c/d", 1, false},
	{"runes count by their bytes", lines{allow("/é"), disallow("/é*")}, "/é", 1, false},
	{"a rune is longer than a letter", lines{disallow("/é"), allow("/*")}, "/é", 0, false},

	{"not read: an empty pattern that forbids", lines{disallow("")}, "/a", 0, false},
	{"not read: an empty pattern that allows", lines{allow("")}, "/a", 0, true},
	{"not read: an empty pattern, an empty path", lines{disallow("")}, "", 0, false},
	{"not read: an empty pattern is the shortest", lines{disallow(""), allow("/")}, "/a", 1, true},
	{"not read: an empty pattern behind others", lines{disallow("/b"), disallow("")}, "/a", 1, false},
	{"not read: two empty patterns", lines{disallow(""), allow("")}, "/a", 1, true},
	{"not read: a line's end", lines{disallow("/a\n"), allow("/a")}, "/a\nb", 0, false},
	{"not read: bytes that are no runes", lines{disallow("\xff"), allow("\xff\xfe")}, "\xff\xfe", 1, true},
	{"not read: a blank", lines{disallow("/a b")}, "/a b", 0, false},
	{"no slash first", lines{disallow("/"), allow("/a")}, "a", -1, true},
	{"no slash first, a star", lines{disallow("/"), disallow("*a")}, "a", 1, false},
	{"no slash first, no slash in the pattern", lines{disallow("a"), allow("/a")}, "ab", 0, false},
	{"an empty path", lines{disallow("/"), allow("/a")}, "", -1, true},
	{"an empty path, an end", lines{disallow("$")}, "", 0, false},
	{"an empty path, a star", lines{allow("$"), disallow("*$")}, "", 1, false},
}

func TestBestLines(t *testing.T) {
	for _, x := range bestLines {
		if best := impl.Best(x.l, x.path); best != x.best {
			t.Errorf("%s: Best(%v, %q) = %d; want %d", x.why, x.l, x.path, best, x.best)
		}
		if allowed := impl.Allowed(x.l, x.path); allowed != x.allowed {
			t.Errorf("%s: Allowed(%v, %q) = %v", x.why, x.l, x.path, allowed)
		}
		checkBest(t, x.l, x.path)
		for _, more := range (lines{allow(""), disallow(""), allow("/"), disallow("/"), allow("*"), disallow("*"), allow("/*"), disallow("/*")}) {
			checkShorter(t, x.l, x.path, more)
			checkBest(t, append(slices.Clone(x.l), more), x.path)
		}
	}
}

// Every order of a few lines: the order tells as long ones apart alone.
func TestBestInEveryOrder(t *testing.T) {
	l := lines{disallow("/"), allow("/p"), disallow("/p/"), allow("/q/"), disallow("/q*"), disallow("/p*")}
	paths := []string{"/a", "/p", "/p/x", "/pq", "/q", "/q/x", "x", "", "/"}
	orders := 0
	var turnAll func(from int)
	turnAll = func(from int) {
		if from == len(l) {
			orders++
			for _, path := range paths {
				checkBest(t, l, path)
				checkShorter(t, l, path, allow("/"))
				checkShorter(t, l, path, disallow("*"))
			}
			return
		}
		for i := from; i < len(l); i++ {
			l[from], l[i] = l[i], l[from]
			turnAll(from + 1)
			l[from], l[i] = l[i], l[from]
		}
	}
	turnAll(0)
	if orders != 720 {
		t.Errorf("%d orders", orders)
	}
}

func TestRobotsTxtIsAlwaysAllowed(t *testing.T) {
	for _, l := range []lines{
		nil,
		{disallow("/")},
		{disallow("*")},
		{disallow("/*")},
		{disallow("/*$")},
		{disallow("/robots.txt")},
		{disallow("/robots.txt$")},
		{disallow("*.txt$"), disallow("/r")},
		{disallow("")},
		{allow("/"), disallow("/robots")},
	} {
		if !impl.Allowed(l, "/robots.txt") {
			t.Errorf("Allowed(%v, /robots.txt) = false", l)
		}
		checkBest(t, l, "/robots.txt")
	}
	forbidsAll := lines{disallow("/"), disallow("*")}
	for _, path := range []string{
		"/robots.txt?", "/robots.txt?a", "/robots.txt/", "/robots.txt/a", "/robots.txtx", "/robots.txt$", "/robots.txt*", "/robots.txt\n", "/robots.txt\x00",
		"/robots.tx", "/robots", "/", "", "robots.txt", "//robots.txt", "/a/robots.txt", "/Robots.txt", "/ROBOTS.TXT", "/robots%2Etxt", " /robots.txt", "/robotsxtxt",
	} {
		if impl.Allowed(forbidsAll, path) {
			t.Errorf("Allowed(%v, %q) = true", forbidsAll, path)
		}
		checkBest(t, forbidsAll, path)
	}
	if best := impl.Best(forbidsAll, "/robots.txt"); best != 0 {
		t.Errorf("Best(%v, /robots.txt) = %d: it is allowed whatever matches, but a line matches", forbidsAll, best)
	}
}

func TestForbids(t *testing.T) {
	for _, x := range []struct {
		why     string
		l       lines
		forbids bool
	}{
		{"no lines", nil, false},
		{"an empty list", lines{}, false},
		{"the root", lines{disallow("/")}, true},
		{"the root is allowed", lines{allow("/")}, false},
		{"both", lines{disallow("/"), allow("/")}, false},
		{"both, the other first", lines{allow("/"), disallow("/")}, false},
		{"the root's end", lines{disallow("/$")}, true},
		{"the root's end is allowed", lines{allow("/$")}, false},
		{"all but the root", lines{disallow("/"), allow("/$")}, false},
		{"the root alone", lines{allow("/"), disallow("/$")}, true},
		{"a star behind the root", lines{disallow("/*")}, true},
		{"a star behind the root, the root is allowed", lines{disallow("/*"), allow("/")}, true},
		{"a star behind the root is allowed", lines{disallow("/"), allow("/*")}, false},
		{"a star and an end, as long ones", lines{disallow("/*"), allow("/$")}, false},
		{"an end and a star, as long ones", lines{disallow("/$"), allow("/*")}, false},
		{"a star", lines{disallow("*")}, true},
		{"a star, and the root is allowed", lines{disallow("*"), allow("/")}, false},
		{"a star and an end", lines{disallow("*$")}, true},
		{"a star, the root and an end", lines{disallow("/*$"), allow("/$")}, true},
		{"longer ones", lines{disallow("/a"), disallow("/b/"), disallow("/*a")}, false},
		{"longer ones that allow", lines{disallow("/"), allow("/a"), allow("/b/")}, true},
		{"longer ones that match", lines{allow("/"), disallow("/**")}, true},
		{"an end alone", lines{disallow("$")}, false},
		{"not read: an empty pattern", lines{disallow("")}, true},
		{"not read: an empty pattern, and the root is allowed", lines{disallow(""), allow("/")}, false},
		{"no slash first", lines{disallow("a"), disallow("robots.txt")}, false},
		{"the one that is always allowed", lines{disallow("/robots.txt")}, false},
	} {
		if forbids := impl.Forbids(x.l); forbids != x.forbids {
			t.Errorf("%s: Forbids(%v) = %v", x.why, x.l, forbids)
		}
		if allowed := impl.Allowed(x.l, "/"); allowed == x.forbids {
			t.Errorf("%s: Allowed(%v, /) = %v", x.why, x.l, allowed)
		}
		checkBest(t, x.l, "/")
	}
}

func TestBestOfEveryTwoLines(t *testing.T) {
	patterns := []string{}
	eachText("/a*$", 3, func(s string) { patterns = append(patterns, s) })
	for _, a := range patterns {
		for _, b := range patterns {
			for allows := range 4 {
				l := lines{{Allow: allows&1 > 0, Pattern: a}, {Allow: allows&2 > 0, Pattern: b}}
				for _, path := range []string{"/", "/a", "a"} {
					checkBest(t, l, path)
				}
			}
		}
	}
}

func TestBestOfManyLines(t *testing.T) {
	turn := rand.New(rand.NewSource(19))
	pieces := []string{"/", "/", "a", "b", "*", "$", ".txt", "%2A", "robots", "?", "é", "\xff"}
	some := func(most int) string {
		s := ""
		for range turn.Intn(most) {
			s += pieces[turn.Intn(len(pieces))]
		}
		return s
	}
	for range 20000 {
		l := lines{}
		for range turn.Intn(8) {
			l = append(l, impl.Line{Allow: turn.Intn(2) == 0, Pattern: some(5)})
		}
		for _, path := range []string{"/" + some(6), some(4), "/", "/robots.txt"} {
			checkBest(t, l, path)
			checkShorter(t, l, path, impl.Line{Allow: turn.Intn(2) == 0, Pattern: some(3)})
		}
	}
}

// Of a text that was read to whether an address may be asked for.
func TestWhatASiteLets(t *testing.T) {
	const text = "user-agent: *\n" +
		"disallow: /example/\nallow: /example/page/\ndisallow: /example/page/no.gif\n" +
		"disallow: *.gif$\nallow: /pub*.gif$\ndisallow: /a b\ndisallow: /%7Ejoe\ndisallow: /x%2a\ndisallow: /*?s=\n" +
		"user-agent: other\ndisallow: /\n"
	r := impl.ParseRobots(text)
	own, other := impl.LinesFor(r, "wayfarer"), impl.LinesFor(r, "other")
	for _, x := range []struct {
		s       string
		allowed bool
	}{
		{"http://a.com", true},
		{"http://a.com/example", true},
		{"http://a.com/example/", false},
		{"http://a.com/example/x", false},
		{"http://a.com/example/page/x", true},
		{"http://a.com/example/page/no.gif", false},
		{"http://a.com/x/../example/page/./no.gif", false},
		{"http://a.com/y.gif", false},
		{"http://a.com/y.gif?", true},
		{"http://a.com/pub/y.gif", true},
		{"http://a.com/a b/c", false},
		{"http://a.com/a%20b", false},
		{"http://a.com/a", true},
		{"http://a.com/~joe", false},
		{"http://a.com/%7ejoe/x", false},
		{"http://a.com/x%2A", false},
		{"http://a.com/xyz", true},
		{"http://a.com/y?s=1", false},
		{"http://a.com/y?t=1", true},
		{"http://a.com/robots.txt", true},
	} {
		u, fault := impl.ParseUrl(x.s)
		path := impl.PathQuery(u)
		if fault != impl.UrlGood || impl.Allowed(own, path) != x.allowed {
			t.Errorf("%s (%d): Allowed(%v, %q) = %v", x.s, fault, own, path, !x.allowed)
		}
		if allowed := impl.Allowed(other, path); allowed != (path == "/robots.txt") {
			t.Errorf("%s: for the other one %v", x.s, allowed)
		}
		checkBest(t, own, path)
	}
	if impl.Forbids(own) || !impl.Forbids(other) || impl.Forbids(impl.LinesFor(impl.Robots{}, "other")) {
		t.Error("whether all is forbidden")
	}
}

// Behind the list's length there is more, which a call must neither read nor
// write; within it nothing is turned about.
func TestBestLeavesItsLines(t *testing.T) {
	room := lines{disallow("/a"), allow("/"), disallow("/*"), allow("/a"), allow("/a/b/c*"), disallow("/**"), allow("/****")}
	before := slices.Clone(room)
	for many := range len(room) {
		l := room[:many]
		for _, path := range []string{"/", "/a", "/a/b/c", "/robots.txt", "", "x"} {
			alone := slices.Clip(slices.Clone(l))
			if best := impl.Best(l, path); best != impl.Best(alone, path) || best != wantBest(alone, path) {
				t.Errorf("Best of the first %d reads behind them: %d", many, best)
			}
			if impl.Allowed(l, path) != wantAllowed(alone, path) || impl.Forbids(l) == wantAllowed(alone, "/") {
				t.Errorf("behind the first %d something is read", many)
			}
			if !slices.Equal(room, before) {
				t.Fatalf("written into the argument, or behind it: %v", room)
			}
		}
	}
}

// What was asked ahead changes no answer.
func TestMatchesKeepNothing(t *testing.T) {
	for _, ahead := range bestLines {
		for _, x := range bestLines {
			impl.Best(ahead.l, ahead.path)
			impl.Forbids(ahead.l)
			if best := impl.Best(x.l, x.path); best != x.best {
				t.Fatalf("%s, behind %s: Best is %d", x.why, ahead.why, best)
			}
			impl.Allowed(ahead.l, ahead.path)
			impl.Matches("/a*$", ahead.path)
			if allowed := impl.Allowed(x.l, x.path); allowed != x.allowed {
				t.Fatalf("%s, behind %s: Allowed is %v", x.why, ahead.why, allowed)
			}
		}
	}
}
