package tests

import (
	"fmt"
	"maps"
	"math"
	"math/rand"
	"reflect"
	"slices"
	"strings"
	"testing"
	"unsafe"

	"loop.example/g00191/impl"
)

const (
	longestAgentName = 40
	mostOrigins      = 60
	mostTold         = 100
	longestUntil     = 1000000
	webText          = "http://"
)

var webRules = rules{plainRule("com"), plainRule("uk"), plainRule("uk", "co")}

func knownOf(origin string, until int, l ...impl.Line) impl.Known {
	return impl.Known{Origin: origin, Lines: l, Until: until}
}

// knows are known of the origin http of that host.
func knows(host string, until int, l ...impl.Line) impl.Known {
	return knownOf(webText+host, until, l...)
}

// keyTold is a key told without http:// ahead, and with ^ for the `:` of a port.
func keyTold(word string) string { return webText + strings.ReplaceAll(word, "^", ":") }

// crawl reads a Sched whose keys are told so, each of which is queued in one
// run.
func crawl(told string, known ...impl.Known) impl.Front {
	s, states := queues(told), map[string]int{}
	for _, site := range s.Sites {
		for k := range site.Queue {
			site.Queue[k].Key = keyTold(site.Queue[k].Key)
			states[site.Queue[k].Key] = 1
		}
	}
	for i := range s.Leases {
		s.Leases[i].Key = keyTold(s.Leases[i].Key)
		states[s.Leases[i].Key] = 1
	}
	f := impl.Front{Rules: webRules, Agent: "Wayfarer/1.0", S: s, Known: known}
	if len(states) > 0 {
		f.Seen.Runs = []marks{wantAscending(states)}
	}
	return f
}

// withSeen has these Marks, too, whose keys are told so.
func withSeen(f impl.Front, told ...impl.Mark) impl.Front {
	states := wantStates(f.Seen)
	for _, m := range told {
		states[keyTold(m.Key)] = m.State
	}
	f.Seen = seenLayers(nil, wantAscending(states))
	return f
}

// changedTo is f with a change, which may write into all of it.
func changedTo(f impl.Front, change func(f *impl.Front)) impl.Front {
	f = copyOfFront(f)
	change(&f)
	return f
}

func copyOfFront(f impl.Front) impl.Front {
	f.Rules, f.Known = slices.Clone(f.Rules), slices.Clone(f.Known)
	for i := range f.Rules {
		f.Rules[i].Parts = slices.Clone(f.Rules[i].Parts)
	}
	for i := range f.Known {
		f.Known[i].Lines = slices.Clone(f.Known[i].Lines)
	}
	f.S, f.Seen = copyOfSched(f.S), copyOf(f.Seen)
	return f
}

func sameKnown(a, b []impl.Known) bool {
	return slices.EqualFunc(a, b, func(a, b impl.Known) bool {
		return a.Origin == b.Origin && a.Until == b.Until && slices.Equal(a.Lines, b.Lines)
	})
}

func sameFront(a, b impl.Front) bool {
	return sameRules(a.Rules, b.Rules) && a.Agent == b.Agent && sameSched(a.S, b.S) && sameSeen(a.Seen, b.Seen) && sameKnown(a.Known, b.Known)
}

func knownText(l []impl.Known) string {
	text := ""
	for _, k := range l[:min(20, len(l))] {
		text += fmt.Sprintf(" %.30s until %d, %d lines", k.Origin, k.Until, len(k.Lines))
		for _, line := range k.Lines[:min(4, len(k.Lines))] {
			text += fmt.Sprintf(" %v %.20q", line.Allow, line.Pattern)
		}
	}
	return text
}

func frontText(f impl.Front) string {
	seen := seenText(f.Seen)
	return fmt.Sprintf("{%d rules, %.50q; %s; seen %.900s; known%s}", len(f.Rules), f.Agent, schedText(f.S), seen, knownText(f.Known))
}

// readAs is what a text was found to be; as the tests ask the same ones often,
// it is kept.
type readAs struct {
	u     impl.Url
	fault int
	text  string
}

var addressesRead = map[string]readAs{}

func addressIn(s string) readAs {
	read, there := addressesRead[s]
	if !there {
		read.u, read.fault = wantUrl(s)
		read.text = wantUrlText(read.u)
		addressesRead[s] = read
	}
	return read
}

func (r readAs) origin() string { return strings.TrimSuffix(r.text, wantRest(r.u)) }

func wantKnownOk(l []impl.Known) bool {
	origins := map[string]bool{}
	right := len(l) <= mostOrigins
	for i, k := range l {
		right = right && len(k.Lines) <= mostTold && !origins[k.Origin] && (i == 0 || l[i-1].Origin < k.Origin)
		origins[k.Origin] = true
	}
	return right
}

// wantFrontOk holds what is queued in Seen against what waits or is leased, as
// two lists in one order.
func wantFrontOk(f impl.Front) bool {
	_, right := wantRulesText(f.Rules)
	if !right || len(f.Agent) > longestAgentName || !wantSchedOk(f.S) || !wantSeenOk(f.Seen) || !wantKnownOk(f.Known) {
		return false
	}
	queued, there := []string{}, flatten(f.S)
	for key, state := range wantStates(f.Seen) {
		if state == impl.StateQueued {
			queued = append(queued, key)
		}
	}
	for _, key := range queued {
		read, site := addressIn(key), there.waiting[key].site+there.leases[key].Site
		if read.fault != 0 || read.text != key || site != wantSite(f.Rules, read.u.Host) {
			return false
		}
	}
	slices.Sort(queued)
	return slices.Equal(queued, keysIn(f.S))
}

func wantFound(f impl.Front, text string, prio int) (impl.Front, int) {
	read := addressIn(text)
	if !wantFrontOk(f) || prio < 0 || prio > 1000 {
		return f, 1
	}
	if read.fault != 0 {
		return f, 2
	}
	if wantStates(f.Seen)[read.text] != 0 {
		return f, 3
	}
	after, put, waits := f, false, false
	after.Seen, put = wantPut(f.Seen, read.text, 1)
	after.S, waits = wantEnqueue(f.S, wantSite(f.Rules, read.u.Host), read.text, prio)
	if put && waits {
		return after, 0
	}
	return f, 4
}

func wantTell(f impl.Front, text, body string, n int) (impl.Front, int) {
	read := addressIn(text)
	if !wantFrontOk(f) || n < 1 || n > longestUntil {
		return f, 1
	}
	if read.fault != 0 {
		return f, 2
	}
	told := map[string]impl.Known{}
	for _, k := range f.Known {
		told[k.Origin] = k
	}
	l := wantLines(wantRobots(body), f.Agent)
	if len(l) > mostTold {
		l = l[:mostTold]
	}
	told[read.origin()] = knownOf(read.origin(), f.S.Now+n, l...)
	if len(told) > mostOrigins {
		return f, 4
	}
	f.Known = nil
	for _, origin := range slices.Sorted(maps.Keys(told)) {
		f.Known = append(f.Known, told[origin])
	}
	return f, 0
}

func wantMay(f impl.Front, key string) int {
	read := addressIn(key)
	if read.fault != 0 {
		return 2
	}
	for _, k := range f.Known {
		if k.Origin != read.origin() || k.Until <= f.S.Now {
			continue
		}
		if wantAllowed(k.Lines, wantRest(read.u)) {
			return 1
		}
		return 0
	}
	return 2
}

// wantNext asks of all that wait, one by one and without their order.
func wantNext(f impl.Front) (impl.Front, string) {
	if !wantFrontOk(f) {
		return f, ""
	}
	best, site, place := math.MaxInt, -1, -1
	for i, at := range f.S.Sites {
		for k, w := range at.Queue {
			if turnOf(w) < best && at.Ready <= f.S.Now && wantMay(f, w.Key) == 1 {
				best, site, place = turnOf(w), i, k
			}
		}
	}
	s, key := wantHandOut(f.S, site, place)
	f.S = s
	return f, key
}

// wantDone presses where there is no room for a Mark more.
func wantDone(f impl.Front, key string) (impl.Front, int) {
	if !wantFrontOk(f) {
		return f, 1
	}
	s, ended := wantEnded(f.S, key)
	if !ended {
		return f, 5
	}
	seen, put := wantPut(f.Seen, key, 2)
	if !put {
		states := wantStates(f.Seen)
		states[key] = 2
		seen = seenLayers(nil, wantAscending(states))
	}
	f.S, f.Seen = s, seen
	return f, 0
}

func wantReturn(f impl.Front, key string) (impl.Front, int) {
	if !wantFrontOk(f) {
		return f, 1
	}
	if !hasLease(f.S, key) {
		return f, 5
	}
	s, waits := wantGiveBack(f.S, key)
	if !waits {
		return f, 4
	}
	f.S = s
	return f, 0
}

func wantTicks(f impl.Front, n int) (impl.Front, int) {
	if !wantFrontOk(f) || n < 1 || n > 10000 {
		return f, 1
	}
	s := wantPass(f.S, n)
	if s.Now == f.S.Now {
		return f, 4
	}
	f.S = s
	return f, 0
}

// checkAnswer holds what a call made of f against what is wanted: a right one
// comes of a right one, and what is refused is answered as it was.
func checkAnswer(t *testing.T, why string, f, before, after, want impl.Front, code, wantCode int) {
	t.Helper()
	if code != wantCode || !sameFront(after, want) {
		t.Fatalf("%s: of %s comes %s, %d; want %s, %d", why, frontText(before), frontText(after), code, frontText(want), wantCode)
	}
	if !sameFront(f, before) {
		t.Fatalf("%s: %s itself has become %s", why, frontText(before), frontText(f))
	}
	if code != 0 && !sameFront(after, before) {
		t.Fatalf("%s: refused, %s is answered as %s", why, frontText(before), frontText(after))
	}
	if wantFrontOk(before) != impl.FrontOk(after) {
		t.Fatalf("%s: of %s comes %s: FrontOk is another", why, frontText(before), frontText(after))
	}
}

// checkStates: nothing of what was seen is another but for this key.
func checkStates(t *testing.T, why string, before, after impl.Front, key string, state int) {
	t.Helper()
	was, is := wantStates(before.Seen), wantStates(after.Seen)
	if state != 0 {
		was[key] = state
	}
	if !maps.Equal(was, is) {
		t.Fatalf("%s: of %s comes %s: something else was seen", why, frontText(before), frontText(after))
	}
}

func foundIn(t *testing.T, f impl.Front, text string, prio int) impl.Front {
	t.Helper()
	before, why := copyOfFront(f), fmt.Sprintf("Found %.60q %d", text, prio)
	after, code := impl.Found(f, text, prio)
	want, wantCode := wantFound(before, text, prio)
	checkAnswer(t, why, f, before, after, want, code, wantCode)
	if code == 0 {
		key := addressIn(text).text
		checkStates(t, why, before, after, key, impl.StateQueued)
		if again, code := impl.Found(after, text, prio); code != impl.FrontSeen || !sameFront(again, after) {
			t.Fatalf("%s: behind it, it is found again: %d", why, code)
		}
	}
	return after
}

// toldIn holds what is told of one origin against what is known of others,
// which stays.
func toldIn(t *testing.T, f impl.Front, text, body string, n int) impl.Front {
	t.Helper()
	before, why := copyOfFront(f), fmt.Sprintf("Tell %.60q %.60q %d", text, body, n)
	after, code := impl.Tell(f, text, body, n)
	want, wantCode := wantTell(before, text, body, n)
	checkAnswer(t, why, f, before, after, want, code, wantCode)
	if code == 0 {
		if impl.MayFetch(after, text) == impl.MayUnknown {
			t.Fatalf("%s: behind it, it is not known: %s", why, frontText(after))
		}
		for _, key := range keysIn(f.S) {
			if addressIn(key).origin() != addressIn(text).origin() && impl.MayFetch(after, key) != impl.MayFetch(before, key) {
				t.Fatalf("%s: of %s comes %s, where %q has changed", why, frontText(before), frontText(after), key)
			}
		}
	}
	return after
}

func mayIn(t *testing.T, f impl.Front, key string) {
	t.Helper()
	before := copyOfFront(f)
	if got, want := impl.MayFetch(f, key), wantMay(f, key); got != want {
		t.Fatalf("MayFetch(%s, %.60q) = %d; want %d", frontText(f), key, got, want)
	}
	if !sameFront(f, before) {
		t.Fatalf("MayFetch(%s, %.60q) made it %s", frontText(before), key, frontText(f))
	}
}

// checkHandedOut holds the promise: the key waited at a ripe site, may be
// fetched, is leased now; and nothing that waits at a ripe site and may be
// fetched matters more, or as much and came ahead of it.
func checkHandedOut(t *testing.T, before, after impl.Front, key string) {
	t.Helper()
	taken := impl.Waiting{}
	candidates := []impl.Waiting{}
	for _, place := range impl.Ripe(before.S) {
		for _, w := range before.S.Sites[place].Queue {
			if w.Key == key {
				taken = w
			}
			if impl.MayFetch(before, w.Key) == impl.May {
				candidates = append(candidates, w)
			}
		}
	}
	if key == "" && len(candidates) == 0 {
		return
	}
	if key == "" || taken.Key != key || !slices.Contains(candidates, taken) || !hasLease(after.S, key) || hasLease(before.S, key) {
		t.Fatalf("Next(%s) hands out %q", frontText(before), key)
	}
	if len(impl.Ripe(after.S)) != len(impl.Ripe(before.S))-1 || whereabouts(after.S)[key] != whereabouts(before.S)[key] {
		t.Fatalf("Next(%s) is %s", frontText(before), frontText(after))
	}
	for _, w := range candidates {
		if w.Prio > taken.Prio || w.Prio == taken.Prio && w.Seq < taken.Seq {
			t.Fatalf("Next(%s) hands out %q, but %q matters more", frontText(before), key, w.Key)
		}
	}
}

func nextIn(t *testing.T, f impl.Front) (impl.Front, string) {
	t.Helper()
	before := copyOfFront(f)
	after, key := impl.Next(f)
	want, wantKey := wantNext(before)
	if key != wantKey {
		t.Fatalf("Next(%s) hands out %q; want %q", frontText(before), key, wantKey)
	}
	code := 0
	if key == "" {
		code = 1
	}
	checkAnswer(t, "Next", f, before, after, want, code, code)
	if wantFrontOk(before) {
		checkHandedOut(t, before, after, key)
		checkStates(t, "Next", before, after, "", 0)
	}
	return after, key
}

func doneIn(t *testing.T, f impl.Front, key string) impl.Front {
	t.Helper()
	before, why := copyOfFront(f), fmt.Sprintf("DoneWith %.60q", key)
	after, code := impl.DoneWith(f, key)
	want, wantCode := wantDone(before, key)
	checkAnswer(t, why, f, before, after, want, code, wantCode)
	if code == 0 {
		checkStates(t, why, before, after, key, impl.StateDone)
		if again, code := impl.Found(after, key, 5); code != impl.FrontSeen || !sameFront(again, after) {
			t.Fatalf("%s: behind it, it is found: %d", why, code)
		}
	}
	return after
}

func returnIn(t *testing.T, f impl.Front, key string) impl.Front {
	t.Helper()
	before, why := copyOfFront(f), fmt.Sprintf("Return %.60q", key)
	after, code := impl.Return(f, key)
	want, wantCode := wantReturn(before, key)
	checkAnswer(t, why, f, before, after, want, code, wantCode)
	if wantFrontOk(before) {
		checkStates(t, why, before, after, "", 0)
	}
	return after
}

func ticksIn(t *testing.T, f impl.Front, n int) impl.Front {
	t.Helper()
	before, why := copyOfFront(f), fmt.Sprintf("Ticks %d", n)
	after, code := impl.Ticks(f, n)
	want, wantCode := wantTicks(before, n)
	checkAnswer(t, why, f, before, after, want, code, wantCode)
	if wantFrontOk(before) {
		checkStates(t, why, before, after, "", 0)
	}
	return after
}

// webKeys are addresses as they are written, of several sites and origins.
var webKeys = []string{
	"http://1.2.3.4/x", "http://[::1]/y?", "http://a.com/", "http://a.com/private", "http://a.com/private/y?q", "http://a.com/robots.txt",
	"http://a.com/x", "http://a.com:8080/x", "http://b.co.uk/", "http://com/", "http://www.a.com/x", "http://www.b.co.uk/z",
	"http://xn--bcher-kva.com/", "https://a.com/x",
}

// otherTexts are addresses that are written otherwise, and no addresses.
var otherTexts = []string{
	"HTTP://A.com", " http://a.com/./x#y\n", "http://a.com:80/%78", `https:\\A.COM:443\x`, "http://bücher.com", "http://16909060/x", "http://b.co.uk./", "http://a.com/X",
	"", "x", "a.com/x", "ftp://a.com/", "http:/a.com/", "http://", "http://a.com:0/", "http://u@a.com/", "http://a..com/", "http://a.1/", "//a.com/", "http://[::1/",
}

// webOrigins are those of webKeys.
func webOrigins() []string {
	l := []string{}
	for _, key := range webKeys {
		l = append(l, addressIn(key).origin())
	}
	slices.Sort(l)
	return slices.Compact(l)
}

// checkFront asks everything of a frontier, right or wrong.
func checkFront(t *testing.T, f impl.Front) {
	t.Helper()
	if got := impl.FrontOk(f); got != wantFrontOk(f) {
		t.Fatalf("FrontOk(%s) = %v", frontText(f), got)
	}
	texts := append(append(slices.Clone(webKeys), otherTexts...), keysIn(f.S)...)
	for i, text := range texts {
		mayIn(t, f, text)
		foundIn(t, f, text, []int{0, 500, 1000}[i%3])
	}
	for _, key := range append(keysIn(f.S), "", "http://a.com", "HTTP://a.com/", "http://a.com/none", "a.com") {
		doneIn(t, f, key)
		returnIn(t, f, key)
	}
	for i, text := range []string{"http://a.com/", "https://a.com:443", "http://new.com/x?y", "x"} {
		toldIn(t, f, text, "user-agent: *\ndisallow: /x\n", []int{0, 1, longestUntil, longestUntil + 1}[i])
		toldIn(t, f, text, "user-agent: wayfarer\nallow: /\n\nuser-agent: *\ndisallow: /x\n", 30)
	}
	for _, n := range append([]int{-1, 0, 1, 1000, 1001}, farNumbers...) {
		foundIn(t, f, "http://new.com/", n)
		toldIn(t, f, "http://new.com/", "", n)
	}
	for _, n := range passes(f.S) {
		ticksIn(t, f, n)
	}
	nextIn(t, f)
}

func TestFrontNumbers(t *testing.T) {
	codes := []int{impl.FrontGood, impl.FrontForm, impl.FrontUrl, impl.FrontSeen, impl.FrontFull, impl.FrontNone}
	if !slices.Equal(codes, []int{0, 1, 2, 3, 4, 5}) || impl.MayNot != 0 || impl.May != 1 || impl.MayUnknown != 2 {
		t.Error(codes, impl.MayNot, impl.May, impl.MayUnknown)
	}
}

func TestFrontNew(t *testing.T) {
	forty := strings.Repeat("w", longestAgentName)
	for _, x := range []struct {
		why         string
		l           rules
		agent       string
		delay, span int
		ok          bool
	}{
		{"some", webRules, "Wayfarer/1.0", 10, 100, true},
		{"no rules", nil, "wayfarer", 10, 100, true},
		{"the most rules", manyRules(60), "wayfarer", 10, 100, true},
		{"no agent", webRules, "", 10, 100, true},
		{"an agent that is no name", webRules, "*", 10, 100, true},
		{"an agent of blanks and bytes", webRules, " \xff\x00", 10, 100, true},
		{"an agent of 39 bytes", webRules, forty[1:], 10, 100, true},
		{"an agent of 40 bytes", webRules, forty, 10, 100, true},
		{"an agent of 40 bytes, 20 runes", webRules, strings.Repeat("é", 20), 10, 100, true},
		{"the least Delay and Span", webRules, "wayfarer", 1, 1, true},
		{"the most Delay and Span", webRules, "wayfarer", 1000, 10000, true},
		{"the least Delay, the most Span", webRules, "wayfarer", 1, 10000, true},

		{"an agent of 41 bytes", webRules, forty + "w", 10, 100, false},
		{"an agent of 41 bytes, of 21 runes", webRules, strings.Repeat("é", 20) + "e", 10, 100, false},
		{"an agent of very many bytes", webRules, strings.Repeat(forty, 1000), 10, 100, false},
		{"one rule too many", manyRules(61), "wayfarer", 10, 100, false},
		{"a rule twice", rules{plainRule("com"), plainRule("com")}, "wayfarer", 10, 100, false},
		{"a rule of no part", rules{plainRule()}, "wayfarer", 10, 100, false},
		{"an exception of one part", rules{exceptRule("com")}, "wayfarer", 10, 100, false},
		{"a wrong part", rules{plainRule("Com")}, "wayfarer", 10, 100, false},
		{"no Delay", webRules, "wayfarer", 0, 100, false},
		{"a Delay below 0", webRules, "wayfarer", -1, 100, false},
		{"a Delay one more", webRules, "wayfarer", 1001, 100, false},
		{"no Span", webRules, "wayfarer", 10, 0, false},
		{"a Span below 0", webRules, "wayfarer", 10, -100, false},
		{"a Span one more", webRules, "wayfarer", 10, 10001, false},
		{"far numbers", webRules, "wayfarer", math.MaxInt, math.MinInt, false},
		{"all is wrong", rules{plainRule("*", "x")}, forty + forty, 0, 0, false},
	} {
		f, ok := impl.FrontNew(x.l, x.agent, x.delay, x.span)
		want := impl.Front{}
		if x.ok {
			want = impl.Front{Rules: x.l, Agent: x.agent, S: impl.Sched{Delay: x.delay, Span: x.span}}
		}
		if ok != x.ok || !sameFront(f, want) {
			t.Errorf("%s: FrontNew answers %s, %v", x.why, frontText(f), ok)
		}
		if impl.FrontOk(f) != x.ok {
			t.Errorf("%s: FrontOk = %v", x.why, !x.ok)
		}
		checkFront(t, f)
	}
	for delay := -2; delay < 1010; delay++ {
		for _, span := range []int{-1, 0, 1, 9999, 10000, 10001} {
			_, ok := impl.FrontNew(webRules, "", delay, span)
			if want := delay > 0 && delay <= 1000 && span > 0 && span <= 10000; ok != want {
				t.Errorf("FrontNew of Delay %d, Span %d: %v", delay, span, ok)
			}
		}
	}
}

// web is a frontier in which several wait and are leased, at sites that are
// ripe and are not, with rules that are known, are no longer, and are not told.
const webTold = "10 25 7 9 | 1.2.3.4 7 1.2.3.4/x:5:3 | a.com 7 www.a.com/x:9:2 a.com/private:5:0 a.com/x:5:4 | b.co.uk 8 b.co.uk/:1000:5 | com 0 = a.com/:a.com:0:9 www.b.co.uk/z:b.co.uk:7:8"

var webKnown = []impl.Known{
	knows("1.2.3.4", 7), knows("a.com", 8, disallow("/private")), knows("b.co.uk", 1000), knows("www.a.com", 6, disallow("/y")),
}

func web() impl.Front {
	return withSeen(crawl(webTold, webKnown...), mark("a.com/done", 2), mark("a.com/gone", 3))
}

// manyKnown are that many origins, known until tick 9.
func manyKnown(many int) []impl.Known {
	l := []impl.Known{}
	for _, name := range someKeys("o", many) {
		l = append(l, knows(name+".com", 9))
	}
	return l
}

func manyLines(many int) lines {
	l := lines{}
	for _, path := range someKeys("/p", many) {
		l = append(l, disallow(path))
	}
	return l
}

var rightFronts = []struct {
	why string
	f   impl.Front
}{
	{"nothing", crawl("10 25 0 0")},
	{"one that waits", crawl("10 25 0 1 | a.com 0 a.com/x:5:0")},
	{"one that waits, and may be fetched", crawl("10 25 0 1 | a.com 0 a.com/x:5:0", knows("a.com", 1))},
	{"one that is leased", crawl("10 25 0 1 | a.com 0 = a.com/x:a.com:5:9")},
	{"several", web()},
	{"one site of several hosts and origins", crawl("10 25 0 4 | a.com 0 a.com/:5:0 www.a.com/:5:1 x.y.a.com/:5:2 a.com^8080/:5:3")},
	{"hosts of numbers", crawl("10 25 0 2 | 1.2.3.4 0 1.2.3.4/:5:0 | 1.2.3.5 0 1.2.3.5/:5:1")},
	{"without rules", changedTo(crawl("10 25 0 1 | b.co 0 a.b.co/:5:0"), func(f *impl.Front) { f.Rules = nil })},
	{"rules with an exception", changedTo(crawl("10 25 0 2 | city.kobe.jp 0 x.city.kobe.jp/:5:0 | y.z.kobe.jp 0 x.y.z.kobe.jp/:5:1"), func(f *impl.Front) { f.Rules = benchRules })},
	{"no agent", changedTo(web(), func(f *impl.Front) { f.Agent = "" })},
	{"an agent of 40 bytes", changedTo(web(), func(f *impl.Front) { f.Agent = strings.Repeat("w", longestAgentName) })},
	{"a site with nothing", crawl("10 25 0 0 | a.com 0")},
	{"a site that is no host's", crawl("10 25 0 0 | x_y 0")},
	{"only done and gone", withSeen(crawl("10 25 0 0"), mark("a.com/", 2), mark("a.com/x", 3))},
	{"done and gone are no addresses", changedTo(crawl("10 25 0 0"), func(f *impl.Front) { f.Seen = layers("x2 | y3 z2") })},
	{"a Mark in an older layer tells another", changedTo(crawl("10 25 0 1 | a.com 0 a.com/x:5:0"), func(f *impl.Front) {
		f.Seen = seenLayers(marks{mark("http://a.com/x", 1)}, marks{mark("http://a.com/x", 2)}, marks{mark("http://a.com/x", 3)})
	})},
	{"what an older layer queues is done", changedTo(crawl("10 25 0 0"), func(f *impl.Front) {
		f.Seen = seenLayers(marks{mark("http://a.com/x", 2)}, marks{mark("http://a.com/x", 1), mark("x", 1)}, marks{mark("x", 1)})
		f.Seen.Runs[0][1].State = 3
	})},
	{"nothing is known any more", crawl("10 25 7 1 | a.com 0 a.com/x:5:0", knows("a.com", 7), knows("b.com", 0), knows("c.com", -5))},
	{"known of what is no origin", crawl("10 25 7 0", knownOf("", 9), knownOf("http", 9), knownOf("http://A.com", 9), knownOf("http://a.com/", 9))},
	{"known until a far tick", crawl("10 25 7 1 | a.com 0 a.com/x:5:0", knows("a.com", math.MaxInt), knows("b.com", math.MinInt))},
	{"known by lines that are not read of a body", crawl("10 25 7 1 | a.com 0 a.com/x:5:0", knows("a.com", 9, disallow(""), allow("x y"), allow("\xff")))},
	{"100 lines are known", crawl("10 25 7 0", knows("a.com", 9, manyLines(100)...))},
	{"60 origins are known", crawl("10 25 7 1 | a.com 0 a.com/x:5:0", manyKnown(60)...)},
	{"60 origins of 100 lines", changedTo(crawl("10 25 7 0", manyKnown(60)...), func(f *impl.Front) {
		for i := range f.Known {
			f.Known[i].Lines = manyLines(100)
		}
	})},
	{"Now at its last", crawl("10 25 100000000 1 | a.com 0 a.com/x:5:0", knows("a.com", lastTick+1))},
	{"no Seq is left", crawl("10 25 9 1000000 | a.com 0 a.com/x:5:0 = a.com/y:a.com:5:9", knows("a.com", 10))},
}

func TestRightFronts(t *testing.T) {
	for _, x := range rightFronts {
		if !impl.FrontOk(x.f) {
			t.Errorf("%s: FrontOk(%s) = false", x.why, frontText(x.f))
		}
		checkFront(t, x.f)
	}
}

// wrongBy is web, which is right, with one thing that is not.
func wrongBy(change func(f *impl.Front)) impl.Front { return changedTo(web(), change) }

func seenAs(key string, state int) impl.Front {
	return wrongBy(func(f *impl.Front) {
		for _, l := range f.Seen.Runs {
			for i := range l {
				if l[i].Key == key {
					l[i].State = state
				}
			}
		}
	})
}

// asKey has one that waits at that site, queued by that key.
func asKey(site, key string) impl.Front {
	f := crawl("10 25 7 1", knows("a.com", 100))
	f.S.Sites = []impl.Site{siteAt(site, 0, waits(key, 5, 0))}
	f.Seen = seenLayers(marks{mark(key, 1)})
	return f
}

// asLease has one lease of that site, queued by that key.
func asLease(site, key string) impl.Front {
	f := crawl("10 25 7 1", knows("a.com", 100))
	f.S.Sites = []impl.Site{siteAt(site, 0)}
	f.S.Leases = []impl.Lease{leased(key, site, 5, 9)}
	f.Seen = seenLayers(marks{mark(key, 1)})
	return f
}

var wrongFronts = []struct {
	why string
	f   impl.Front
}{
	{"the zero one", impl.Front{}},
	{"an agent of 41 bytes", wrongBy(func(f *impl.Front) { f.Agent = strings.Repeat("w", longestAgentName+1) })},
	{"a rule twice", wrongBy(func(f *impl.Front) { f.Rules = append(f.Rules, plainRule("com")) })},
	{"a rule of no part", wrongBy(func(f *impl.Front) { f.Rules[1].Parts = nil })},
	{"a wrong part", wrongBy(func(f *impl.Front) { f.Rules[1].Parts[0] = "UK" })},
	{"61 rules", wrongBy(func(f *impl.Front) { f.Rules = manyRules(61) })},
	{"no Delay", wrongBy(func(f *impl.Front) { f.S.Delay = 0 })},
	{"a Span one more", wrongBy(func(f *impl.Front) { f.S.Span = 10001 })},
	{"a Now below 0", wrongBy(func(f *impl.Front) { f.S.Now = -1 })},
	{"a Seq that is Seq", wrongBy(func(f *impl.Front) { f.S.Seq = 5 })},
	{"sites out of order", wrongBy(func(f *impl.Front) { slices.Reverse(f.S.Sites) })},
	{"a queue out of order", wrongBy(func(f *impl.Front) { slices.Reverse(f.S.Sites[1].Queue) })},
	{"a lease whose site is not there", wrongBy(func(f *impl.Front) { f.S.Leases[0].Site = "b.com" })},
	{"a key that waits twice", wrongBy(func(f *impl.Front) { f.S.Sites[1].Queue[2].Key = "http://a.com/private" })},
	{"a State that is none", seenAs("http://a.com/done", 4)},
	{"a Mark of no State", seenAs("http://a.com/x", 0)},
	{"a run of no Marks", wrongBy(func(f *impl.Front) { f.Seen.Runs = append(f.Seen.Runs, nil) })},
	{"Marks out of order", wrongBy(func(f *impl.Front) { slices.Reverse(f.Seen.Runs[0]) })},
	{"a Mark of no key", wrongBy(func(f *impl.Front) { f.Seen.Mem = marks{mark("", 2)} })},
	{"too many Marks", wrongBy(func(f *impl.Front) { f.Seen.Runs = append(f.Seen.Runs, stand("z", 392, 2)) })},

	{"61 origins are known", wrongBy(func(f *impl.Front) { f.Known = manyKnown(61) })},
	{"61 origins, none of them known any more", wrongBy(func(f *impl.Front) {
		f.Known = manyKnown(61)
		for i := range f.Known {
			f.Known[i].Until = 0
		}
	})},
	{"101 lines are known", wrongBy(func(f *impl.Front) { f.Known[1].Lines = manyLines(101) })},
	{"101 lines, no longer known", wrongBy(func(f *impl.Front) { f.Known[3].Lines = manyLines(101) })},
	{"origins out of order", wrongBy(func(f *impl.Front) { slices.Reverse(f.Known) })},
	{"origins out of order at the end", wrongBy(func(f *impl.Front) { f.Known[3].Origin = "http://a.com:8080" })},
	{"an origin twice", wrongBy(func(f *impl.Front) { f.Known[2].Origin = f.Known[1].Origin })},
	{"an origin twice, known until another tick", wrongBy(func(f *impl.Front) { f.Known[0] = knows("a.com", 7, allow("/")) })},
	{"an origin twice, of no bytes", wrongBy(func(f *impl.Front) { f.Known = []impl.Known{knownOf("", 9), knownOf("", 9)} })},

	{"one that waits was not seen", wrongBy(func(f *impl.Front) {
		f.Seen.Runs[0] = slices.DeleteFunc(f.Seen.Runs[0], func(m impl.Mark) bool { return m.Key == "http://a.com/x" })
	})},
	{"one that is leased was not seen", wrongBy(func(f *impl.Front) {
		f.Seen.Runs[0] = slices.DeleteFunc(f.Seen.Runs[0], func(m impl.Mark) bool { return m.Key == "http://a.com/" })
	})},
	{"nothing was seen", wrongBy(func(f *impl.Front) { f.Seen = impl.Seen{} })},
	{"one that waits is done", seenAs("http://a.com/x", 2)},
	{"one that waits is gone", seenAs("http://a.com/x", 3)},
	{"one that is leased is done", seenAs("http://a.com/", 2)},
	{"one that is leased is gone", seenAs("http://www.b.co.uk/z", 3)},
	{"one that waits is done by a newer layer", wrongBy(func(f *impl.Front) { f.Seen.Mem = marks{mark("http://a.com/x", 2)} })},
	{"one more is queued", seenAs("http://a.com/done", 1)},
	{"one more is queued, no address", wrongBy(func(f *impl.Front) { f.Seen.Mem = marks{mark("x", 1)} })},
	{"one is done, another one queued", wrongBy(func(f *impl.Front) { f.Seen.Mem = marks{mark("http://a.com/done", 1), mark("http://a.com/x", 2)} })},
	{"one waits no longer", wrongBy(func(f *impl.Front) { f.S.Sites[1].Queue = f.S.Sites[1].Queue[:2] })},
	{"one is leased no longer", wrongBy(func(f *impl.Front) { f.S.Leases = f.S.Leases[:1] })},

	{"it waits at another site", asKey("b.com", "http://a.com/")},
	{"it waits at its host, which is not its site", asKey("www.a.com", "http://www.a.com/")},
	{"it waits at a suffix", asKey("com", "http://a.com/")},
	{"it waits at its site in large letters", asKey("A.com", "http://a.com/")},
	{"it is leased of another site", asLease("b.com", "http://a.com/")},
	{"it is leased of its host, which is not its site", asLease("www.a.com", "http://www.a.com/")},
	{"it waits at its site by other rules", wrongBy(func(f *impl.Front) { f.Rules = f.Rules[:2] })},
	{"what waits is no address", asKey("a.com", "x")},
	{"what is leased is no address", asLease("a.com", "a.com/")},
	{"what waits has a wrong port", asKey("a.com", "http://a.com:0/")},
	{"what waits is too long", asKey("a.com", "http://a.com/"+strings.Repeat("x", 1988))},
	{"what waits is its port's, too", asKey("a.com", "http://a.com:80/")},
	{"what waits has no path", asKey("a.com", "http://a.com")},
	{"what waits is in large letters", asKey("a.com", "http://A.com/")},
	{"what waits has something behind a #", asKey("a.com", "http://a.com/#x")},
	{"what waits has a dot", asKey("a.com", "http://a.com/./x")},
	{"what waits has a blank ahead", asKey("a.com", " http://a.com/")},
	{"what waits has a needless percent", asKey("a.com", "http://a.com/%78")},
	{"what is leased has no path", asLease("a.com", "http://a.com")},
	{"what is leased has a needless percent", asLease("a.com", "http://a.com/%2d")},
}

// What is not right is refused as it is; whether it may be fetched is told by
// the words of it.
func TestWrongFronts(t *testing.T) {
	for _, x := range wrongFronts {
		if impl.FrontOk(x.f) {
			t.Errorf("%s: FrontOk(%s) = true", x.why, frontText(x.f))
		}
		next, key := impl.Next(x.f)
		if key != "" || !sameFront(next, x.f) {
			t.Errorf("%s: Next hands out %q of %s", x.why, key, frontText(next))
		}
		found, a := impl.Found(x.f, "http://new.com/", 5)
		told, b := impl.Tell(x.f, "http://new.com/", "", 5)
		done, c := impl.DoneWith(x.f, "http://a.com/")
		back, d := impl.Return(x.f, "http://a.com/")
		later, e := impl.Ticks(x.f, 1)
		for i, code := range []int{a, b, c, d, e} {
			if after := []impl.Front{found, told, done, back, later}[i]; code != impl.FrontForm || !sameFront(after, x.f) {
				t.Errorf("%s: by call %d of %s comes %s, %d", x.why, i, frontText(x.f), frontText(after), code)
			}
		}
		checkFront(t, x.f)
	}
}

// Where several reasons apply, the one that is named first counts.
func TestWhichFrontCodeComesFirst(t *testing.T) {
	full := fullFront(mostWaiting)
	for _, x := range []struct {
		why  string
		code func() (impl.Front, int)
		want int
	}{
		{"no Prio, no address", func() (impl.Front, int) { return impl.Found(web(), "x", 1001) }, impl.FrontForm},
		{"no Prio, seen", func() (impl.Front, int) { return impl.Found(web(), "http://a.com/x", -1) }, impl.FrontForm},
		{"not right, no address", func() (impl.Front, int) { return impl.Found(impl.Front{}, "x", 5) }, impl.FrontForm},
		{"no address, full", func() (impl.Front, int) { return impl.Found(full, "x", 5) }, impl.FrontUrl},
		{"seen, full", func() (impl.Front, int) { return impl.Found(full, "http://h000.com/", 5) }, impl.FrontSeen},
		{"full", func() (impl.Front, int) { return impl.Found(full, "http://new.com/", 5) }, impl.FrontFull},
		{"no ticks, no address", func() (impl.Front, int) { return impl.Tell(web(), "x", "", 0) }, impl.FrontForm},
		{"no address, full of origins", func() (impl.Front, int) { return impl.Tell(crawl("10 25 0 0", manyKnown(60)...), "x", "", 5) }, impl.FrontUrl},
		{"no ticks, full of origins", func() (impl.Front, int) {
			return impl.Tell(crawl("10 25 0 0", manyKnown(60)...), "http://new.com/", "", longestUntil+1)
		}, impl.FrontForm},
		{"no lease, no Seq", func() (impl.Front, int) { return impl.Return(crawl("10 25 0 1000000"), "http://a.com/") }, impl.FrontNone},
		{"too many ticks, no time", func() (impl.Front, int) { return impl.Ticks(crawl("10 25 100000000 0"), 10001) }, impl.FrontForm},
	} {
		if _, code := x.code(); code != x.want {
			t.Errorf("%s: %d; want %d", x.why, code, x.want)
		}
	}
}

func TestFounds(t *testing.T) {
	for _, x := range []struct {
		why, text string
		prio      int
		key, site string
		code      int
	}{
		{"at a new site", "http://new.com/", 5, "http://new.com/", "new.com", 0},
		{"at a site that is there", "http://a.com/new", 5, "http://a.com/new", "a.com", 0},
		{"at the site of another host", "http://x.y.a.com/", 5, "http://x.y.a.com/", "a.com", 0},
		{"of another scheme", "https://a.com/x", 5, "https://a.com/x", "a.com", 0},
		{"of another port", "http://a.com:81/x", 5, "http://a.com:81/x", "a.com", 0},
		{"with a query", "http://a.com/x?", 5, "http://a.com/x?", "a.com", 0},
		{"in other letters", "http://a.com/X", 5, "http://a.com/X", "a.com", 0},
		{"of a longer suffix", "http://www.new.co.uk/", 5, "http://www.new.co.uk/", "new.co.uk", 0},
		{"of a suffix itself", "http://co.uk/", 5, "http://co.uk/", "co.uk", 0},
		{"of no rule", "http://www.new.org/", 5, "http://www.new.org/", "new.org", 0},
		{"of a number", "http://127.1/", 5, "http://127.0.0.1/", "127.0.0.1", 0},
		{"of a longer number", "http://[::FFFF]/", 5, "http://[::ffff]/", "[::ffff]", 0},
		{"written otherwise", "\tHTTP://NEW.com:80/a/../%7e b#c ", 5, "http://new.com/~%20b", "new.com", 0},
		{"without a path", "http://new.com", 5, "http://new.com/", "new.com", 0},
		{"of runes", "http://bücher.com/é", 5, "http://xn--bcher-kva.com/%C3%A9", "xn--bcher-kva.com", 0},
		{"a beginning of what was seen", "http://a.com/xy", 5, "http://a.com/xy", "a.com", 0},
		{"the least Prio", "http://new.com/", 0, "http://new.com/", "new.com", 0},
		{"the most Prio", "http://new.com/", 1000, "http://new.com/", "new.com", 0},
		{"the most bytes", "http://new.com/" + strings.Repeat("x", 1985), 5, "http://new.com/" + strings.Repeat("x", 1985), "new.com", 0},

		{"a Prio below 0", "http://new.com/", -1, "", "", impl.FrontForm},
		{"a Prio one more", "http://new.com/", 1001, "", "", impl.FrontForm},
		{"no address", "new.com", 5, "", "", impl.FrontUrl},
		{"no bytes", "", 5, "", "", impl.FrontUrl},
		{"another scheme", "ftp://new.com/", 5, "", "", impl.FrontUrl},
		{"a user", "http://u@new.com/", 5, "", "", impl.FrontUrl},
		{"no host", "http:///", 5, "", "", impl.FrontUrl},
		{"no port", "http://new.com:65536/", 5, "", "", impl.FrontUrl},
		{"one byte too many", "http://new.com/" + strings.Repeat("x", 1986), 5, "", "", impl.FrontUrl},
		{"too many bytes as written", "http://new.com/" + strings.Repeat(" ", 700) + "x", 5, "", "", impl.FrontUrl},
		{"it waits", "http://a.com/x", 5, "", "", impl.FrontSeen},
		{"it waits, written otherwise", "HTTP://a.com:80/./x#y", 5, "", "", impl.FrontSeen},
		{"it is leased", "http://a.com/", 5, "", "", impl.FrontSeen},
		{"it is leased, without a path", "http://a.com", 5, "", "", impl.FrontSeen},
		{"it is done", "http://a.com/done", 5, "", "", impl.FrontSeen},
		{"it is done, with a percent", "http://a.com/%64one", 5, "", "", impl.FrontSeen},
		{"it is gone", "http://a.com/gone", 5, "", "", impl.FrontSeen},
	} {
		after, code := impl.Found(web(), x.text, x.prio)
		if code != x.code {
			t.Errorf("%s: Found %.60q: %d; want %d", x.why, x.text, code, x.code)
		}
		want := web()
		if x.code == 0 {
			want.S, _ = wantEnqueue(want.S, x.site, x.key, x.prio)
			want.Seen = seenLayers(marks{mark(x.key, 1)}, want.Seen.Runs...)
		}
		if !sameFront(after, want) {
			t.Errorf("%s: Found %.60q: %s; want %s", x.why, x.text, frontText(after), frontText(want))
		}
		checkFront(t, foundIn(t, web(), x.text, x.prio))
	}
}

func TestTells(t *testing.T) {
	hundred := "user-agent: *\n"
	for _, line := range manyLines(100) {
		hundred += "disallow: " + line.Pattern + "\n"
	}
	for _, x := range []struct {
		why, text, body string
		n               int
		known           impl.Known
		code            int
	}{
		{"a new origin", "http://new.com/", "user-agent: *\ndisallow: /x\nallow: /x/y\n", 5, knows("new.com", 12, disallow("/x"), allow("/x/y")), 0},
		{"a new origin, by a path and a query", "http://new.com/a/b?c", "user-agent: *\ndisallow: /\n", 5, knows("new.com", 12, disallow("/")), 0},
		{"nothing is forbidden", "http://new.com/", "", 5, knows("new.com", 12), 0},
		{"nothing but strange lines", "http://new.com/", "\xff\x00 : \n\n:", 5, knows("new.com", 12), 0},
		{"for another one", "http://new.com/", "user-agent: other\ndisallow: /\n", 5, knows("new.com", 12), 0},
		{"for its name", "http://new.com/", "user-agent: *\ndisallow: /\nuser-agent: WAYFARER\ndisallow: /x\n", 5, knows("new.com", 12, disallow("/x")), 0},
		{"for its name, twice", "http://new.com/", "user-agent: wayfarer\ndisallow: /x\nuser-agent: a\nallow: /a\nuser-agent: wayfarer/9\nallow: /y\n", 5, knows("new.com", 12, disallow("/x"), allow("/y")), 0},
		{"for its name, without lines", "http://new.com/", "user-agent: *\ndisallow: /\nuser-agent: wayfarer\ndisallow:\n", 5, knows("new.com", 12), 0},
		{"a pattern written otherwise", "http://new.com/", "user-agent: *\ndisallow: /%7ea b\n", 5, knows("new.com", 12, disallow("/~a%20b")), 0},
		{"for the least time", "http://new.com/", "", 1, knows("new.com", 8), 0},
		{"for the most time", "http://new.com/", "", longestUntil, knows("new.com", longestUntil+7), 0},
		{"another scheme", "https://a.com/", "", 5, knownOf("https://a.com", 12), 0},
		{"another port", "http://a.com:8080/", "", 5, knownOf("http://a.com:8080", 12), 0},
		{"its own port", "https://new.com:443/x", "", 5, knownOf("https://new.com", 12), 0},
		{"a number", "http://0x7f.1/x", "", 5, knownOf("http://127.0.0.1", 12), 0},
		{"written otherwise", "  HTTP:\\\\NEW.com\\x#y", "", 5, knows("new.com", 12), 0},
		{"it is told again", "http://a.com/", "user-agent: *\nallow: /\n", 5, knows("a.com", 12, allow("/")), 0},
		{"it is told again, for less time", "http://b.co.uk/", "", 1, knows("b.co.uk", 8), 0},
		{"it is told again, and was no longer known", "http://www.a.com/x", "", 5, knows("www.a.com", 12), 0},
		{"100 lines", "http://new.com/", hundred, 5, knows("new.com", 12, manyLines(100)...), 0},
		{"101 lines", "http://new.com/", hundred + "allow: /last\n", 5, knows("new.com", 12, manyLines(100)...), 0},
		{"101 lines, of two parts", "http://new.com/", hundred + "user-agent: a\nallow: /a\nuser-agent: *\nallow: /last\n", 5, knows("new.com", 12, manyLines(100)...), 0},
		{"many lines, of others", "http://new.com/", hundred + "user-agent: wayfarer\nallow: /x\n", 5, knows("new.com", 12, allow("/x")), 0},
		{"what stands behind MaxRobots bytes", "http://new.com/", strings.Repeat("#", 19969) + "\nuser-agent: *\ndisallow: /x\ndisallow: /y\n", 5, knows("new.com", 12, disallow("/x")), 0},

		{"for no time", "http://new.com/", "", 0, impl.Known{}, impl.FrontForm},
		{"for a time below 0", "http://new.com/", "", -1, impl.Known{}, impl.FrontForm},
		{"for a tick too many", "http://new.com/", "", longestUntil + 1, impl.Known{}, impl.FrontForm},
		{"no address", "new.com", "", 5, impl.Known{}, impl.FrontUrl},
		{"no bytes", "", "", 5, impl.Known{}, impl.FrontUrl},
		{"an address that is too long", "http://new.com/" + strings.Repeat("x", 1986), "", 5, impl.Known{}, impl.FrontUrl},
	} {
		after, code := impl.Tell(web(), x.text, x.body, x.n)
		if code != x.code {
			t.Errorf("%s: Tell %.60q: %d; want %d", x.why, x.text, code, x.code)
		}
		want := web()
		if x.code == 0 {
			want.Known = slices.DeleteFunc(slices.Clone(want.Known), func(k impl.Known) bool { return k.Origin == x.known.Origin })
			want.Known = append(want.Known, x.known)
			slices.SortFunc(want.Known, func(a, b impl.Known) int { return strings.Compare(a.Origin, b.Origin) })
		}
		if !sameFront(after, want) {
			t.Errorf("%s: Tell %.60q: %s; want %s", x.why, x.text, frontText(after), frontText(want))
		}
		checkFront(t, toldIn(t, web(), x.text, x.body, x.n))
	}
}

// The agent by which it asks tells whose lines they are, as LinesFor reads it.
func TestTellsByAgent(t *testing.T) {
	const body = "user-agent: *\ndisallow: /any\nuser-agent: way\ndisallow: /way\nuser-agent: 1\ndisallow: /empty\n"
	for _, x := range []struct{ agent, path string }{
		{"way", "/way"}, {"WAY", "/way"}, {"Way/2.0 (x)", "/way"}, {"wayfarer", "/any"}, {"*", "/any"}, {"*way", "/any"}, {"", "/empty"}, {" way", "/empty"}, {"7", "/empty"},
		{strings.Repeat("w", longestAgentName), "/any"},
	} {
		f, ok := impl.FrontNew(nil, x.agent, 1, 1)
		if !ok {
			t.Fatal(x.agent)
		}
		f = toldIn(t, f, "http://a.com/", body, 5)
		if !slices.Equal(f.Known[0].Lines, lines{disallow(x.path)}) || f.Agent != x.agent {
			t.Errorf("%q is told %v", x.agent, f.Known[0].Lines)
		}
	}
}

func TestSixtyOrigins(t *testing.T) {
	f, _ := impl.FrontNew(webRules, "wayfarer", 10, 25)
	for i, name := range someKeys("o", mostOrigins) {
		f = toldIn(t, f, webText+name+".com/", "", 1+i)
	}
	if len(f.Known) != mostOrigins || !impl.FrontOk(f) {
		t.Fatal(frontText(f))
	}
	for _, text := range []string{"http://a.com/", "http://zz.com/", "https://o000.com/", "http://o030.com:81/"} {
		if after, code := impl.Tell(f, text, "", 5); code != impl.FrontFull || !sameFront(after, f) {
			t.Errorf("%q is told as one more: %d", text, code)
		}
		toldIn(t, f, text, "", 5)
	}
	for _, name := range []string{"o000", "o030", "o059"} {
		after, code := impl.Tell(f, webText+name+".com/x", "user-agent: *\ndisallow: /x\n", 5)
		if code != impl.FrontGood || len(after.Known) != mostOrigins || impl.MayFetch(after, webText+name+".com/x") != impl.MayNot {
			t.Errorf("%q is told again: %d", name, code)
		}
		toldIn(t, f, webText+name+".com/x", "", 5)
	}
	// Those that are no longer known still stand there, and are in the way.
	f = ticksIn(t, f, 1000)
	if _, code := impl.Tell(f, "http://a.com/", "", 5); code != impl.FrontFull || len(f.Known) != mostOrigins {
		t.Errorf("behind 1000 ticks: %d", code)
	}
	f = toldIn(t, f, "http://o007.com/", "", 5)
	if impl.MayFetch(f, "http://o007.com/") != impl.May || impl.MayFetch(f, "http://o008.com/") != impl.MayUnknown {
		t.Error("behind 1000 ticks one is told again")
	}
	f = foundIn(t, f, "http://o007.com/", 5)
	if _, key := nextIn(t, f); key != "http://o007.com/" {
		t.Errorf("%q is handed out", key)
	}
}

func TestMayFetches(t *testing.T) {
	f := crawl("10 25 7 1 | a.com 0 a.com/x:5:0",
		knows("6.com", 6), knows("7.com", 7), knows("8.com", 8),
		knows("a.com", 8, disallow("/private"), allow("/private/y"), disallow("/*?q$")),
		knows("all.com", 9, disallow("/")),
		knows("past.com", 7, disallow("/")),
		knownOf("https://a.com", 9, disallow("/x")))
	for _, x := range []struct {
		why, key string
		may      int
	}{
		{"known until one later", "http://8.com/", impl.May},
		{"known until just now", "http://7.com/", impl.MayUnknown},
		{"known until one earlier", "http://6.com/", impl.MayUnknown},
		{"forbidden, known until just now", "http://past.com/", impl.MayUnknown},
		{"robots.txt, known until just now", "http://past.com/robots.txt", impl.MayUnknown},
		{"not told of", "http://b.com/", impl.MayUnknown},
		{"no line matches", "http://a.com/", impl.May},
		{"forbidden", "http://a.com/private", impl.MayNot},
		{"forbidden, longer", "http://a.com/privates", impl.MayNot},
		{"a longer line allows", "http://a.com/private/y", impl.May},
		{"forbidden by its query", "http://a.com/x?q", impl.MayNot},
		{"forbidden by a query, but not this one", "http://a.com/x?qq", impl.May},
		{"all is forbidden", "http://all.com/x", impl.MayNot},
		{"all is forbidden but this", "http://all.com/robots.txt", impl.May},
		{"all is forbidden, this with a query, too", "http://all.com/robots.txt?", impl.MayNot},
		{"another scheme", "https://a.com/private", impl.May},
		{"another scheme, forbidden", "https://a.com/x", impl.MayNot},
		{"another port", "http://a.com:8080/", impl.MayUnknown},
		{"another host of the site", "http://www.a.com/", impl.MayUnknown},
		{"written otherwise", " HTTP://A.com:80/x/../%70rivate#y", impl.MayNot},
		{"written otherwise, without a path", "http://A.com", impl.May},
		{"never seen", "http://8.com/never/seen", impl.May},
		{"it waits", "http://a.com/x", impl.May},
		{"no address", "a.com", impl.MayUnknown},
		{"no address, of a known host", "http://u@a.com/", impl.MayUnknown},
		{"no bytes", "", impl.MayUnknown},
		{"an origin alone, which is read as an address", "http://8.com", impl.May},
		{"too long", "http://8.com/" + strings.Repeat("x", 1988), impl.MayUnknown},
	} {
		if got := impl.MayFetch(f, x.key); got != x.may {
			t.Errorf("%s: MayFetch %.60q = %d; want %d", x.why, x.key, got, x.may)
		}
		mayIn(t, f, x.key)
	}
	// An origin of no bytes is that of no address.
	f.Known = []impl.Known{knownOf("", 9)}
	for _, key := range append(slices.Clone(webKeys), otherTexts...) {
		if got := impl.MayFetch(f, key); got != impl.MayUnknown {
			t.Errorf("MayFetch %q = %d, with an origin of no bytes", key, got)
		}
	}
}

// Of a frontier that is not right the words hold: known is the first that is
// known until later than Now.
func TestMayFetchOfWrongFronts(t *testing.T) {
	f := impl.Front{Known: []impl.Known{knows("b.com", 1, disallow("/")), knows("a.com", 0), knows("a.com", 1, disallow("/x")), knows("a.com", 2, disallow("/y"))}}
	for key, may := range map[string]int{"http://a.com/x": impl.MayNot, "http://a.com/y": impl.May, "http://b.com/": impl.MayNot, "http://c.com/": impl.MayUnknown} {
		if got := impl.MayFetch(f, key); got != may || wantMay(f, key) != may {
			t.Errorf("MayFetch %q = %d; want %d", key, got, may)
		}
	}
	if got := impl.MayFetch(impl.Front{}, "http://a.com/"); got != impl.MayUnknown {
		t.Errorf("of the zero one: %d", got)
	}
}

func TestNexts(t *testing.T) {
	for _, x := range []struct {
		why, s string
		known  []impl.Known
		key    string
		after  string
	}{
		{"nothing", "10 25 7 0", nil, "", ""},
		{"nothing, and something is known", "10 25 7 0", []impl.Known{knows("a.com", 9)}, "", ""},
		{"one, nothing is known", "10 25 7 1 | a.com 0 a.com/x:5:0", nil, "", ""},
		{"one, which may be fetched", "10 25 7 1 | a.com 0 a.com/x:5:0", []impl.Known{knows("a.com", 9)}, "a.com/x", "10 25 7 1 | a.com 17 = a.com/x:a.com:5:32"},
		{"one, which is forbidden", "10 25 7 1 | a.com 0 a.com/x:5:0", []impl.Known{knows("a.com", 9, disallow("/x"))}, "", ""},
		{"one, which is allowed", "10 25 7 1 | a.com 0 a.com/x:5:0", []impl.Known{knows("a.com", 9, disallow("/"), allow("/x"))}, "a.com/x", "10 25 7 1 | a.com 17 = a.com/x:a.com:5:32"},
		{"one, known until one later", "10 25 7 1 | a.com 0 a.com/x:5:0", []impl.Known{knows("a.com", 8)}, "a.com/x", "10 25 7 1 | a.com 17 = a.com/x:a.com:5:32"},
		{"one, known until just now", "10 25 7 1 | a.com 0 a.com/x:5:0", []impl.Known{knows("a.com", 7)}, "", ""},
		{"one, known until one earlier", "10 25 7 1 | a.com 0 a.com/x:5:0", []impl.Known{knows("a.com", 6)}, "", ""},
		{"one, another origin of its site is known", "10 25 7 1 | a.com 0 www.a.com/x:5:0", []impl.Known{knows("a.com", 9)}, "", ""},
		{"one, its site is ripe just now", "10 25 7 1 | a.com 7 a.com/x:5:0", []impl.Known{knows("a.com", 9)}, "a.com/x", "10 25 7 1 | a.com 17 = a.com/x:a.com:5:32"},
		{"one, its site is not ripe", "10 25 7 1 | a.com 8 a.com/x:5:0", []impl.Known{knows("a.com", 9)}, "", ""},
		{"one that is leased", "10 25 7 1 | a.com 0 = a.com/x:a.com:5:9", []impl.Known{knows("a.com", 9)}, "", ""},
		{"one that is leased, and over", "10 25 7 1 | a.com 0 = a.com/x:a.com:5:0", []impl.Known{knows("a.com", 9)}, "", ""},
		{"robots.txt, and all is forbidden", "10 25 7 2 | a.com 0 a.com/x:9:0 a.com/robots.txt:0:1", []impl.Known{knows("a.com", 9, disallow("/"))}, "a.com/robots.txt", "10 25 7 2 | a.com 17 a.com/x:9:0 = a.com/robots.txt:a.com:0:32"},

		{"the first of a site is forbidden", "10 25 7 3 | a.com 0 a.com/p:9:0 a.com/x:5:1 a.com/y:5:2", []impl.Known{knows("a.com", 9, disallow("/p"))}, "a.com/x", "10 25 7 3 | a.com 17 a.com/p:9:0 a.com/y:5:2 = a.com/x:a.com:5:32"},
		{"the first of a site is not known", "10 25 7 3 | a.com 0 www.a.com/:9:0 a.com/x:5:1 a.com/y:5:2", []impl.Known{knows("a.com", 9)}, "a.com/x", "10 25 7 3 | a.com 17 www.a.com/:9:0 a.com/y:5:2 = a.com/x:a.com:5:32"},
		{"the last of a site alone may be fetched", "10 25 7 3 | a.com 0 a.com/p:9:0 www.a.com/:7:1 a.com/x:0:2", []impl.Known{knows("a.com", 9, disallow("/p"))}, "a.com/x", "10 25 7 3 | a.com 17 a.com/p:9:0 www.a.com/:7:1 = a.com/x:a.com:0:32"},
		{"none of a site may be fetched", "10 25 7 3 | a.com 0 a.com/p:9:0 www.a.com/:7:1 a.com/p/:0:2", []impl.Known{knows("a.com", 9, disallow("/p"))}, "", ""},

		{"the greatest Prio, at the first site", "10 25 7 3 | a.com 0 a.com/:6:2 | b.com 0 b.com/:5:0 | c.com 0 c.com/:4:1", []impl.Known{knows("a.com", 9), knows("b.com", 9), knows("c.com", 9)}, "a.com/", "10 25 7 3 | a.com 17 | b.com 0 b.com/:5:0 | c.com 0 c.com/:4:1 = a.com/:a.com:6:32"},
		{"the greatest Prio, at the last site", "10 25 7 3 | a.com 0 a.com/:4:0 | b.com 0 b.com/:5:1 | c.com 0 c.com/:6:2", []impl.Known{knows("a.com", 9), knows("b.com", 9), knows("c.com", 9)}, "c.com/", "10 25 7 3 | a.com 0 a.com/:4:0 | b.com 0 b.com/:5:1 | c.com 17 = c.com/:c.com:6:32"},
		{"the greatest Prio, in the midst", "10 25 7 3 | a.com 0 a.com/:4:0 | b.com 0 b.com/:1000:1 | c.com 0 c.com/:999:2", []impl.Known{knows("a.com", 9), knows("b.com", 9), knows("c.com", 9)}, "b.com/", "10 25 7 3 | a.com 0 a.com/:4:0 | b.com 17 | c.com 0 c.com/:999:2 = b.com/:b.com:1000:32"},
		{"the same Prio: the least Seq, at the last site", "10 25 7 3 | a.com 0 a.com/:5:1 | b.com 0 b.com/:5:2 | c.com 0 c.com/:5:0", []impl.Known{knows("a.com", 9), knows("b.com", 9), knows("c.com", 9)}, "c.com/", "10 25 7 3 | a.com 0 a.com/:5:1 | b.com 0 b.com/:5:2 | c.com 17 = c.com/:c.com:5:32"},
		{"the same Prio: the least Seq, at the first site", "10 25 7 3 | a.com 0 a.com/:5:0 | b.com 0 b.com/:5:2 | c.com 0 c.com/:5:1", []impl.Known{knows("a.com", 9), knows("b.com", 9), knows("c.com", 9)}, "a.com/", "10 25 7 3 | a.com 17 | b.com 0 b.com/:5:2 | c.com 0 c.com/:5:1 = a.com/:a.com:5:32"},
		{"the same Prio, as numbers, not as texts", "10 25 7 20 | a.com 0 a.com/:5:10 | b.com 0 b.com/:5:9", []impl.Known{knows("a.com", 9), knows("b.com", 9)}, "b.com/", "10 25 7 20 | a.com 0 a.com/:5:10 | b.com 17 = b.com/:b.com:5:32"},
		{"the same Prio at one site", "10 25 7 3 | a.com 0 a.com/z:5:0 a.com/y:5:1 a.com/x:5:2", []impl.Known{knows("a.com", 9)}, "a.com/z", "10 25 7 3 | a.com 17 a.com/y:5:1 a.com/x:5:2 = a.com/z:a.com:5:32"},
		{"the greatest Prio is at a site that is not ripe", "10 25 7 2 | a.com 8 a.com/:9:0 | b.com 7 b.com/:5:1", []impl.Known{knows("a.com", 9), knows("b.com", 9)}, "b.com/", "10 25 7 2 | a.com 8 a.com/:9:0 | b.com 17 = b.com/:b.com:5:32"},
		{"the greatest Prio is forbidden", "10 25 7 2 | a.com 0 a.com/:9:0 | b.com 7 b.com/:5:1", []impl.Known{knows("a.com", 9, disallow("/")), knows("b.com", 9)}, "b.com/", "10 25 7 2 | a.com 0 a.com/:9:0 | b.com 17 = b.com/:b.com:5:32"},
		{"the greatest Prio is no longer known of", "10 25 7 2 | a.com 0 a.com/:9:0 | b.com 7 b.com/:5:1", []impl.Known{knows("a.com", 7), knows("b.com", 9)}, "b.com/", "10 25 7 2 | a.com 0 a.com/:9:0 | b.com 17 = b.com/:b.com:5:32"},
		{"the greatest Prio is leased", "10 25 7 2 | a.com 0 | b.com 7 b.com/:5:1 = a.com/:a.com:9:9", []impl.Known{knows("a.com", 9), knows("b.com", 9)}, "b.com/", "10 25 7 2 | a.com 0 | b.com 17 = a.com/:a.com:9:9 b.com/:b.com:5:32"},
		{"a second one of a site ahead of the first of another", "10 25 7 3 | a.com 0 a.com/p:9:0 a.com/x:6:2 | b.com 0 b.com/:5:1", []impl.Known{knows("a.com", 9, disallow("/p")), knows("b.com", 9)}, "a.com/x", "10 25 7 3 | a.com 17 a.com/p:9:0 | b.com 0 b.com/:5:1 = a.com/x:a.com:6:32"},
		{"the first of another ahead of a second one", "10 25 7 3 | a.com 0 a.com/p:9:0 a.com/x:5:2 | b.com 0 b.com/:5:1", []impl.Known{knows("a.com", 9, disallow("/p")), knows("b.com", 9)}, "b.com/", "10 25 7 3 | a.com 0 a.com/p:9:0 a.com/x:5:2 | b.com 17 = b.com/:b.com:5:32"},
		{"nothing is known any more", "10 25 7 2 | a.com 0 a.com/:9:0 | b.com 7 b.com/:5:1", []impl.Known{knows("a.com", 7), knows("b.com", 6)}, "", ""},
		{"the last tick, the most Delay and Span", "1000 10000 100000000 1 | a.com 0 a.com/:9:0", []impl.Known{knows("a.com", lastTick+1)}, "a.com/", "1000 10000 100000000 1 | a.com 100001000 = a.com/:a.com:9:100010000"},
		{"no Seq is left", "10 25 7 1000000 | a.com 0 a.com/:9:0", []impl.Known{knows("a.com", 9)}, "a.com/", "10 25 7 1000000 | a.com 17 = a.com/:a.com:9:32"},
	} {
		f := crawl(x.s, x.known...)
		want := f
		if x.key != "" {
			want.S = crawl(x.after).S
			x.key = webText + x.key
		}
		after, key := impl.Next(f)
		if key != x.key || !sameFront(after, want) {
			t.Errorf("%s: Next(%s) = %s, %q; want %s, %q", x.why, frontText(f), frontText(after), key, frontText(want), x.key)
		}
		checkFront(t, f)
		checkFront(t, after)
	}
}

func TestDoneAndReturned(t *testing.T) {
	const full = "10 25 7 1000000 | a.com 0 a.com/x:5:0 = a.com/:a.com:0:9"
	for _, x := range []struct {
		why        string
		f          impl.Front
		key        string
		done, back int
		after      string
	}{
		{"a lease", web(), "http://a.com/", 0, 0, ""},
		{"another lease, which is over just later", web(), "http://www.b.co.uk/z", 0, 0, ""},
		{"the only one", crawl("10 25 7 1 | a.com 0 = a.com/:a.com:0:9"), "http://a.com/", 0, 0, ""},
		{"a lease that is over", crawl("10 25 7 1 | a.com 0 = a.com/:a.com:0:0"), "http://a.com/", 0, 0, ""},
		{"a lease that is forbidden by now", crawl("10 25 7 1 | a.com 0 = a.com/:a.com:0:9", knows("a.com", 9, disallow("/"))), "http://a.com/", 0, 0, ""},
		{"the last Seq", crawl("10 25 7 999999 | a.com 0 a.com/x:5:0 = a.com/:a.com:0:9"), "http://a.com/", 0, 0, ""},
		{"no Seq is left", crawl(full), "http://a.com/", 0, impl.FrontFull, ""},
		{"no Seq is left, and no lease", crawl(full), "http://a.com/x", impl.FrontNone, impl.FrontNone, ""},
		{"it waits", web(), "http://a.com/x", impl.FrontNone, impl.FrontNone, ""},
		{"it is done", web(), "http://a.com/done", impl.FrontNone, impl.FrontNone, ""},
		{"it is gone", web(), "http://a.com/gone", impl.FrontNone, impl.FrontNone, ""},
		{"it was never seen", web(), "http://new.com/", impl.FrontNone, impl.FrontNone, ""},
		{"written otherwise it is no key", web(), "http://a.com", impl.FrontNone, impl.FrontNone, ""},
		{"written otherwise, in large letters", web(), "HTTP://a.com/", impl.FrontNone, impl.FrontNone, ""},
		{"its site", web(), "a.com", impl.FrontNone, impl.FrontNone, ""},
		{"no address", web(), "x", impl.FrontNone, impl.FrontNone, ""},
		{"no bytes", web(), "", impl.FrontNone, impl.FrontNone, ""},
		{"nothing is leased", crawl("10 25 7 0"), "http://a.com/", impl.FrontNone, impl.FrontNone, ""},
	} {
		done, code := impl.DoneWith(x.f, x.key)
		if code != x.done || code == 0 && (hasLease(done.S, x.key) || impl.SeenGet(done.Seen, x.key) != impl.StateDone || len(done.S.Leases) != len(x.f.S.Leases)-1) {
			t.Errorf("%s: DoneWith(%s, %q) = %s, %d", x.why, frontText(x.f), x.key, frontText(done), code)
		}
		back, code := impl.Return(x.f, x.key)
		if code != x.back || code == 0 && (hasLease(back.S, x.key) || !slices.Contains(keysIn(back.S), x.key) || impl.SeenGet(back.Seen, x.key) != impl.StateQueued) {
			t.Errorf("%s: Return(%s, %q) = %s, %d", x.why, frontText(x.f), x.key, frontText(back), code)
		}
		if x.done == 0 {
			if again, code := impl.DoneWith(done, x.key); code != impl.FrontNone || !sameFront(again, done) {
				t.Errorf("%s: done twice: %d", x.why, code)
			}
		}
		checkFront(t, doneIn(t, x.f, x.key))
		checkFront(t, returnIn(t, x.f, x.key))
	}
}

func TestTickses(t *testing.T) {
	for _, x := range []struct {
		why, s string
		n      int
		after  string
		code   int
	}{
		{"a tick", "10 25 7 0", 1, "10 25 8 0", 0},
		{"the most ticks", "10 25 7 0", 10000, "10 25 10007 0", 0},
		{"a lease is over just now", "10 25 7 1 | a.com 17 = a.com/:a.com:5:9", 2, "10 25 9 2 | a.com 17 a.com/:5:1", 0},
		{"a lease is over a tick from now", "10 25 7 1 | a.com 17 = a.com/:a.com:5:10", 2, "10 25 9 1 | a.com 17 = a.com/:a.com:5:10", 0},
		{"some leases are over", "10 25 7 2 | a.com 17 | b.com 17 = a.com/:a.com:5:9 a.com/x:a.com:6:8 b.com/:b.com:7:90", 2, "10 25 9 4 | a.com 17 a.com/x:6:3 a.com/:5:2 | b.com 17 = b.com/:b.com:7:90", 0},
		{"to the last tick", "10 25 99999999 0", 1, "10 25 100000000 0", 0},
		{"no Seq is left, and no lease is over", "10 25 7 1000000 | a.com 0 = a.com/:a.com:5:10", 2, "10 25 9 1000000 | a.com 0 = a.com/:a.com:5:10", 0},

		{"no tick", "10 25 7 0", 0, "", impl.FrontForm},
		{"a tick back", "10 25 7 0", -1, "", impl.FrontForm},
		{"a tick too many", "10 25 7 0", 10001, "", impl.FrontForm},
		{"as many as turn round", "10 25 7 0", math.MaxInt, "", impl.FrontForm},
		{"above the last tick", "10 25 100000000 0", 1, "", impl.FrontFull},
		{"above the last tick, by many", "10 25 99990001 1 | a.com 0 = a.com/:a.com:5:9", 10000, "", impl.FrontFull},
		{"no Seq is left for a lease that is over", "10 25 7 1000000 | a.com 0 = a.com/:a.com:5:9", 2, "", impl.FrontFull},
		{"one Seq is left for two leases", "10 25 7 999999 | a.com 0 = a.com/:a.com:5:9 a.com/x:a.com:5:9", 2, "", impl.FrontFull},
	} {
		f := crawl(x.s, webKnown...)
		want := f
		if x.code == 0 {
			want.S = crawl(x.after).S
		}
		after, code := impl.Ticks(f, x.n)
		if code != x.code || !sameFront(after, want) {
			t.Errorf("%s: Ticks(%s, %d) = %s, %d; want %s, %d", x.why, frontText(f), x.n, frontText(after), code, frontText(want), x.code)
		}
		checkFront(t, f)
		checkFront(t, after)
	}
}

// What is known is known until a tick: as time passes tick by tick, it may be
// fetched ahead of that tick, and is unknown from there on, until it is told
// again.
func TestNoLongerKnown(t *testing.T) {
	for _, n := range []int{1, 2, 7, 30} {
		f, _ := impl.FrontNew(webRules, "wayfarer", 1, 1)
		f = ticksIn(t, f, 5)
		f = foundIn(t, f, "http://a.com/x", 5)
		f = foundIn(t, f, "http://b.com/y", 5)
		f = toldIn(t, f, "http://a.com/", "user-agent: *\ndisallow: /y\n", n)
		f = toldIn(t, f, "http://b.com/", "user-agent: *\ndisallow: /y\n", n+1)
		for tick := range n + 2 {
			want := []int{impl.May, impl.MayNot, impl.MayNot}
			key := "http://a.com/x"
			if tick >= n {
				want, key = []int{impl.MayUnknown, impl.MayUnknown, impl.MayNot}, ""
			}
			if tick > n {
				want[2] = impl.MayUnknown
			}
			got := []int{impl.MayFetch(f, "http://a.com/x"), impl.MayFetch(f, "http://a.com/y"), impl.MayFetch(f, "http://b.com/y")}
			if !slices.Equal(got, want) {
				t.Errorf("told for %d ticks, behind %d: %v; want %v", n, tick, got, want)
			}
			if _, handed := nextIn(t, f); handed != key {
				t.Errorf("told for %d ticks, behind %d: %q is handed out", n, tick, handed)
			}
			f = ticksIn(t, f, 1)
		}
		f = toldIn(t, f, "http://a.com/", "", 1)
		if _, key := nextIn(t, f); key != "http://a.com/x" || len(f.Known) != 2 {
			t.Errorf("told again, %q is handed out", key)
		}
	}
}

// A lease outlives what was known: it may be done with and given back, but is
// not handed out again until its origin is told again.
func TestLeasedAndNoLongerKnown(t *testing.T) {
	f, _ := impl.FrontNew(webRules, "wayfarer", 1, 50)
	f = foundIn(t, f, "http://a.com/x", 5)
	f = toldIn(t, f, "http://a.com/", "", 3)
	f, key := nextIn(t, f)
	f = ticksIn(t, f, 10)
	if !impl.FrontOk(f) || impl.MayFetch(f, key) != impl.MayUnknown || !hasLease(f.S, key) {
		t.Fatal(frontText(f))
	}
	if done := doneIn(t, f, key); impl.SeenGet(done.Seen, key) != impl.StateDone {
		t.Error("it is not done")
	}
	f = returnIn(t, f, key)
	if _, again := nextIn(t, f); again != "" {
		t.Errorf("%q is handed out, and nothing is known", again)
	}
	f = toldIn(t, f, "http://a.com/", "user-agent: *\ndisallow: /x\n", 9)
	if _, again := nextIn(t, f); again != "" {
		t.Errorf("%q is handed out, and is forbidden", again)
	}
	f = toldIn(t, f, "http://a.com/", "user-agent: *\nallow: /x\n", 9)
	if _, again := nextIn(t, f); again != key {
		t.Errorf("%q is handed out; want %q", again, key)
	}
}

// fullFront has that many addresses that wait, each at a site of its own.
func fullFront(many int) impl.Front {
	f, _ := impl.FrontNew(webRules, "wayfarer", 10, 25)
	for i, name := range someKeys("h", many) {
		key := webText + name + ".com/"
		f.S, _ = wantEnqueue(f.S, name+".com", key, i%1001)
		f.Seen, _ = wantPut(f.Seen, key, impl.StateQueued)
	}
	return f
}

func TestFullFronts(t *testing.T) {
	for _, many := range []int{mostWaiting - 1, mostWaiting} {
		f := fullFront(many)
		want := map[bool]int{true: impl.FrontGood, false: impl.FrontFull}[many < mostWaiting]
		for _, text := range []string{"http://new.com/", "http://h000.com/x", "http://www.h007.com/"} {
			if _, code := impl.Found(f, text, 5); code != want {
				t.Errorf("%d wait: Found %q: %d; want %d", many, text, code, want)
			}
			foundIn(t, f, text, 5)
		}
		foundIn(t, f, "http://h000.com", 5)
		for _, name := range []string{"h000", "h100", "h198"} {
			f = toldIn(t, f, webText+name+".com/", "", 9)
		}
		f, key := nextIn(t, f)
		if key != "http://h198.com/" {
			t.Errorf("%d wait: %q is handed out", many, key)
		}
		foundIn(t, f, "http://h000.com/x", 5)
		returnIn(t, f, key)
		f = doneIn(t, f, key)
		f = foundIn(t, f, "http://h000.com/x", 5)
		if impl.SeenGet(f.Seen, "http://h000.com/x") != impl.StateQueued {
			t.Errorf("%d wait: none is found behind one that is done", many)
		}
		foundIn(t, f, "http://h000.com/y", 5)
		ticksIn(t, f, 25)
	}
}

// 200 sites with nothing, at one of which there is room still.
func TestFrontsFullOfSites(t *testing.T) {
	f, _ := impl.FrontNew(webRules, "wayfarer", 10, 25)
	for _, name := range someKeys("h", mostWaiting) {
		f.S.Sites = append(f.S.Sites, siteAt(name+".com", 0))
	}
	if after := foundIn(t, f, "http://x.h007.com/", 5); impl.SeenGet(after.Seen, "http://x.h007.com/") != impl.StateQueued {
		t.Error("at a site that is there")
	}
	if after, code := impl.Found(f, "http://new.com/", 5); code != impl.FrontFull || !sameFront(after, f) {
		t.Errorf("at one more: %d", code)
	}
	foundIn(t, f, "http://new.com/", 5)
	noSeq := crawl("10 25 7 1000000 | a.com 0")
	if after, code := impl.Found(noSeq, "http://a.com/", 5); code != impl.FrontFull || !sameFront(after, noSeq) {
		t.Errorf("no Seq is left: %d", code)
	}
	foundIn(t, noSeq, "http://a.com/", 5)
}

// seenFull has that many Marks in that many layers more, and one lease, whose
// key stands in the oldest one.
func seenFull(marksIn ...int) impl.Front {
	f := crawl("10 25 7 1 | a.com 0 = a.com/x:a.com:5:9", knows("a.com", 9))
	runs := []marks{}
	for i, many := range marksIn {
		runs = append(runs, stand(fmt.Sprint(i, "d"), many, impl.StateDone))
	}
	f.Seen.Runs = append(runs, f.Seen.Runs...)
	return f
}

// Where what was seen is full, nothing more is found; what was handed out is
// done all the same, as it was seen already.
func TestFrontsThatHaveSeenTheMost(t *testing.T) {
	for _, x := range []struct {
		why   string
		f     impl.Front
		found int
	}{
		{"398 Marks, in two runs", seenFull(397), 0},
		{"399 Marks, in two runs", seenFull(398), 0},
		{"400 Marks, in two runs", seenFull(399), impl.FrontFull},
		{"400 Marks, in three runs", seenFull(199, 200), impl.FrontFull},
		{"400 Marks, in six runs", seenFull(100, 100, 100, 50, 49), impl.FrontFull},
		{"400 Marks, the key in three layers", changedTo(seenFull(397), func(f *impl.Front) {
			f.Seen.Mem = marks{mark("http://a.com/x", 1)}
			f.Seen.Runs = append(f.Seen.Runs, marks{mark("http://a.com/x", 3)})
		}), impl.FrontFull},
		{"400 Marks, the last two of four runs shrink", changedTo(seenFull(100, 298), func(f *impl.Front) {
			f.Seen.Runs = append(f.Seen.Runs, marks{mark("http://a.com/x", 2)})
		}), 0},
		{"400 Marks, 7 of them in Mem", changedTo(seenFull(392), func(f *impl.Front) { f.Seen.Mem = stand("m", 7, 3) }), impl.FrontFull},
	} {
		if !impl.FrontOk(x.f) {
			t.Fatalf("%s: FrontOk = false", x.why)
		}
		after, code := impl.Found(x.f, "http://new.com/", 5)
		if code != x.found || code != 0 && !sameFront(after, x.f) {
			t.Errorf("%s: Found: %d; want %d", x.why, code, x.found)
		}
		foundIn(t, x.f, "http://new.com/", 5)
		const key = "http://a.com/x"
		done, code := impl.DoneWith(x.f, key)
		if code != impl.FrontGood || impl.SeenGet(done.Seen, key) != impl.StateDone || hasLease(done.S, key) || !impl.FrontOk(done) {
			t.Errorf("%s: DoneWith: %d", x.why, code)
		}
		doneIn(t, x.f, key)
		returnIn(t, x.f, key)
		nextIn(t, returnIn(t, x.f, key))
		ticksIn(t, x.f, 9)
	}
}

// Of several that wait with the same Prio those are handed out in order of
// Seq, wherever they wait; what is given back waits behind the others.
func TestInOrderOfSeq(t *testing.T) {
	f, _ := impl.FrontNew(webRules, "wayfarer", 1, 100)
	keys := []string{}
	for i := range 30 {
		key := fmt.Sprintf("http://%s.com/%d", []string{"c", "a", "b"}[i%3], i)
		keys = append(keys, key)
		f = foundIn(t, f, key, 5)
	}
	for _, host := range []string{"a", "b", "c"} {
		f = toldIn(t, f, webText+host+".com", "", 1000)
	}
	out := []string{}
	for range 12 {
		after, key := nextIn(t, f)
		for ; key != ""; after, key = nextIn(t, after) {
			out = append(out, key)
			if key == keys[4] && len(out) == 5 {
				after = returnIn(t, after, key)
			} else {
				after = doneIn(t, after, key)
			}
		}
		f = ticksIn(t, after, 1)
	}
	want := append(slices.Clone(keys), keys[4])
	if !slices.Equal(out, want) || len(f.S.Leases) != 0 || impl.SeenCount(f.Seen, impl.StateDone) != 30 {
		t.Errorf("handed out: %v; want %v", out, want)
	}
}

var webLines = []impl.Line{
	disallow("/private"), allow("/private/y"), disallow("/"), allow("/"), disallow("/x$"), disallow("/*?"), allow("/x"), disallow("/z"), disallow(""),
}

func someLines(turn *rand.Rand) lines {
	l := lines{}
	for range turn.Intn(4) {
		l = append(l, webLines[turn.Intn(len(webLines))])
	}
	return l
}

// seenOf is told mark by mark, some of them twice, in some order: what is
// told last counts.
func seenOf(turn *rand.Rand, states map[string]int) impl.Seen {
	told := marks{}
	for _, key := range slices.Sorted(maps.Keys(states)) {
		if turn.Intn(3) == 0 {
			told = append(told, mark(key, 1+turn.Intn(3)))
		}
	}
	turn.Shuffle(len(told), func(i, k int) { told[i], told[k] = told[k], told[i] })
	last := wantAscending(states)
	turn.Shuffle(len(last), func(i, k int) { last[i], last[k] = last[k], last[i] })
	seen := impl.Seen{}
	for _, m := range append(told, last...) {
		seen, _ = wantPut(seen, m.Key, m.State)
		if turn.Intn(20) == 0 {
			seen = wantPress(seen)
		}
	}
	return seen
}

// someFront is right. Its keys are some of webKeys.
func someFront(turn *rand.Rand) impl.Front {
	pick := func(of ...int) int { return of[turn.Intn(len(of))] }
	f := impl.Front{Rules: webRules, Agent: pickText(turn, "", "wayfarer", "Way/1", "*"), S: impl.Sched{
		Delay: pick(1, 2, 10, 1000), Span: pick(1, 2, 25, 10000), Now: pick(0, 1, 7, 7, 7, lastTick-1, lastTick),
	}}
	at, states := flatten(f.S), map[string]int{}
	seqs := turn.Perm(len(webKeys) + turn.Intn(5))
	at.numbers.Seq = pick(len(seqs), len(seqs)+7, lastSeq, lastSeq-1)
	for i, key := range webKeys {
		site := wantSite(f.Rules, addressIn(key).u.Host)
		kind := turn.Intn(7)
		if kind == 0 {
			continue
		}
		states[key] = []int{0, 1, 1, 1, 1, 2, 3}[kind]
		if _, there := at.ready[site]; !there && kind < 5 {
			at.ready[site] = pick(0, f.S.Now, f.S.Now, f.S.Now+1, max(0, f.S.Now-1), f.S.Now+f.S.Delay)
		}
		switch kind {
		case 1, 2, 3:
			at.waiting[key] = placed{site, pick(0, 5, 5, 5, 6, 1000), seqs[i]}
		case 4:
			at.leases[key] = leased(key, site, pick(0, 5, 1000), pick(0, f.S.Now, f.S.Now+1, f.S.Now+2, f.S.Now+f.S.Span))
		}
	}
	f.S, f.Seen = at.sched(), seenOf(turn, states)
	for _, origin := range webOrigins() {
		if turn.Intn(4) > 0 {
			f.Known = append(f.Known, knownOf(origin, pick(0, f.S.Now-1, f.S.Now, f.S.Now+1, f.S.Now+1, f.S.Now+9, f.S.Now+9), someLines(turn)...))
		}
	}
	return f
}

func TestManyFronts(t *testing.T) {
	turn := rand.New(rand.NewSource(191))
	for range 120 {
		f := someFront(turn)
		if !wantFrontOk(f) {
			t.Fatal("not right", frontText(f))
		}
		checkFront(t, f)
	}
	for range 2000 {
		f := someFront(turn)
		after, key := nextIn(t, f)
		if key != "" {
			doneIn(t, after, key)
			returnIn(t, after, key)
		}
	}
}

// spoilFront turns one thing wrong, or into another right one.
func spoilFront(turn *rand.Rand, f *impl.Front) {
	key := pickText(turn, webKeys...)
	switch turn.Intn(9) {
	case 0:
		f.Agent = strings.Repeat("w", 39+turn.Intn(3))
	case 1:
		f.Rules = append(slices.Clone(f.Rules), []impl.SiteRule{plainRule("com"), plainRule("org"), plainRule("com", "a"), plainRule(), exceptRule("x", "y")}[turn.Intn(5)])
	case 2:
		spoil(turn, &f.S, []int{-1, 0, 1, 7, 1001, lastTick + 1}[turn.Intn(6)], pickText(turn, key, "", "x", "a.com", "b.co.uk", "http://a.com"))
	case 3:
		f.Seen = seenLayers(marks{mark(key, turn.Intn(5))}, f.Seen.Runs...)
	case 4:
		f.Seen, _ = wantPut(f.Seen, pickText(turn, key, "x", "http://a.com", "http://new.com/"), 1+turn.Intn(3))
	case 5:
		if many := len(f.Known); many > 0 {
			f.Known = append(f.Known, knownOf(pickText(turn, "zz", f.Known[many-1].Origin, f.Known[0].Origin, ""), 5))
		}
	case 6:
		if many := len(f.Known); many > 0 {
			f.Known[turn.Intn(many)].Lines = manyLines(99 + turn.Intn(3))
		}
	case 7:
		if many := len(f.Seen.Runs); many > 0 {
			f.Seen.Runs = f.Seen.Runs[:many-1]
		}
	}
}

// One or two things are turned wrong in a right one, or nothing is.
func TestManyFrontsWithAFault(t *testing.T) {
	turn := rand.New(rand.NewSource(192))
	right := 0
	for range 4000 {
		f := copyOfFront(someFront(turn))
		for range 1 + turn.Intn(2) {
			spoilFront(turn, &f)
		}
		if got := impl.FrontOk(f); got != wantFrontOk(f) {
			t.Fatalf("FrontOk(%s) = %v", frontText(f), got)
		} else if got {
			right++
		}
		foundIn(t, f, pickText(turn, webKeys...), turn.Intn(9))
		toldIn(t, f, pickText(turn, webKeys...), "", 5)
		mayIn(t, f, pickText(turn, webKeys...))
		doneIn(t, f, pickText(turn, webKeys...))
		returnIn(t, f, pickText(turn, webKeys...))
		ticksIn(t, f, 1+turn.Intn(9))
		nextIn(t, f)
	}
	if right < 400 || right > 3600 {
		t.Errorf("%d of 4000 are right", right)
	}
}

// webLedger is what a crawler knows: how each address stands, when each site
// was asked last, and what may be fetched until when.
type webLedger struct {
	state map[string]int
	asked map[string]int
	until map[string]int
	told  map[string]lines
}

func (l *webLedger) may(now int, key string) bool {
	origin := addressIn(key).origin()
	return l.until[origin] > now && wantAllowed(l.told[origin], wantRest(addressIn(key).u))
}

// handedOut holds against what the crawler knows that a key waited, may be
// fetched, and is of a site that was not asked within Delay.
func (l *webLedger) handedOut(t *testing.T, f impl.Front, key string) {
	t.Helper()
	if key == "" {
		return
	}
	site := wantSite(f.Rules, addressIn(key).u.Host)
	at, asked := l.asked[site]
	if l.state[key] != 1 || hasLease(f.S, key) || !l.may(f.S.Now, key) || asked && f.S.Now-at < f.S.Delay {
		t.Fatalf("%q is handed out of %s", key, frontText(f))
	}
	l.asked[site] = f.S.Now
}

func bodyOf(l lines) string {
	text := "user-agent: wayfarer\n"
	for _, line := range l {
		text += map[bool]string{true: "allow: ", false: "disallow: "}[line.Allow] + line.Pattern + "\n"
	}
	return text
}

func (l *webLedger) step(t *testing.T, turn *rand.Rand, f impl.Front, key string) impl.Front {
	t.Helper()
	if len(f.S.Leases) > 0 && turn.Intn(3) > 0 {
		key = f.S.Leases[turn.Intn(len(f.S.Leases))].Key
	}
	switch turn.Intn(16) {
	case 0, 1, 2, 3:
		text := pickText(turn, key, key, pickText(turn, otherTexts...))
		if read := addressIn(text); read.fault == 0 && l.state[read.text] == 0 {
			l.state[read.text] = 1
		}
		return foundIn(t, f, text, turn.Intn(4))
	case 4, 5:
		told, n := someLines(turn), 1+turn.Intn(60)
		told = slices.DeleteFunc(told, func(line impl.Line) bool { return line.Pattern == "" })
		origin := addressIn(key).origin()
		l.told[origin], l.until[origin] = told, f.S.Now+n
		return toldIn(t, f, key, bodyOf(told), n)
	case 6, 7, 8, 9, 10:
		after, out := nextIn(t, f)
		l.handedOut(t, f, out)
		return after
	case 11, 12:
		if hasLease(f.S, key) {
			l.state[key] = 2
		}
		return doneIn(t, f, key)
	case 13:
		return returnIn(t, f, key)
	}
	return ticksIn(t, f, 1+turn.Intn(1+turn.Intn(20)))
}

// All of these one behind the other: what was found waits or is leased, once,
// until it is done, and is then neither.
func TestManyFrontSteps(t *testing.T) {
	turn := rand.New(rand.NewSource(193))
	for range 40 {
		f, _ := impl.FrontNew(webRules, "wayfarer", 1+turn.Intn(12), 1+turn.Intn(40))
		l := webLedger{map[string]int{}, map[string]int{}, map[string]int{}, map[string]lines{}}
		out := 0
		for range 250 {
			before := len(f.S.Leases)
			f = l.step(t, turn, f, pickText(turn, webKeys...))
			if len(f.S.Leases) > before {
				out++
			}
			queued := []string{}
			for key, state := range l.state {
				if state == 1 {
					queued = append(queued, key)
				}
			}
			slices.Sort(queued)
			if !slices.Equal(queued, keysIn(f.S)) || !maps.Equal(l.state, wantStates(f.Seen)) || !impl.FrontOk(f) {
				t.Fatalf("%s; want %v", frontText(f), l.state)
			}
		}
		if out == 0 {
			t.Errorf("nothing was handed out: %s", frontText(f))
		}
	}
}

// frontCall is one of all calls that answer a frontier of one.
type frontCall struct {
	why string
	ask func(f impl.Front) impl.Front
}

func frontCalls() []frontCall {
	l := []frontCall{{"Next", func(f impl.Front) impl.Front { after, _ := impl.Next(f); return after }}}
	add := func(why string, ask func(f impl.Front) (impl.Front, int)) {
		l = append(l, frontCall{why, func(f impl.Front) impl.Front { after, _ := ask(f); return after }})
	}
	for _, text := range []string{"http://a.com/", "http://a.com/x", "http://www.b.co.uk/z", "http://new.com", "x"} {
		add("Found "+text, func(f impl.Front) (impl.Front, int) { return impl.Found(f, text, 5) })
		add("DoneWith "+text, func(f impl.Front) (impl.Front, int) { return impl.DoneWith(f, text) })
		add("Return "+text, func(f impl.Front) (impl.Front, int) { return impl.Return(f, text) })
		add("Tell "+text, func(f impl.Front) (impl.Front, int) {
			return impl.Tell(f, text, "user-agent: *\ndisallow: /some\nallow: /thing\n", 5)
		})
	}
	for n := range 3 {
		add(fmt.Sprint("Ticks ", n), func(f impl.Front) (impl.Front, int) { return impl.Ticks(f, n) })
	}
	return l
}

func frontsToAsk() []impl.Front {
	l := []impl.Front{seenFull(399)}
	for _, x := range rightFronts {
		l = append(l, x.f)
	}
	for _, x := range wrongFronts {
		l = append(l, x.f)
	}
	turn := rand.New(rand.NewSource(194))
	for range 20 {
		l = append(l, someFront(turn))
	}
	return l
}

// roomyFront has more behind each list's length, which a call must neither
// read nor write; whole is all of it.
func roomyFront(f impl.Front) (roomy, whole impl.Front) {
	whole, roomy = f, f
	roomy.S, whole.S = roomySched(f.S)
	mem, runs, outer := roomySeen(f.Seen)
	roomy.Seen, whole.Seen = mem, impl.Seen{Runs: append(outer, runs...)}
	whole.Rules, whole.Known = nil, nil
	roomy.Rules, roomy.Known = nil, nil
	for _, r := range f.Rules {
		parts := append(slices.Clone(r.Parts), "behind", "*", "")
		whole.Rules = append(whole.Rules, impl.SiteRule{Parts: parts, Except: r.Except})
		roomy.Rules = append(roomy.Rules, impl.SiteRule{Parts: parts[:len(r.Parts)], Except: r.Except})
	}
	for _, k := range f.Known {
		l := append(slices.Clone(k.Lines), disallow("/"), disallow("/behind"))
		whole.Known = append(whole.Known, knownOf(k.Origin, k.Until, l...))
		roomy.Known = append(roomy.Known, knownOf(k.Origin, k.Until, l[:len(k.Lines)]...))
	}
	roomy.Rules = append(roomy.Rules, plainRule("behind"), plainRule())[:len(f.Rules)]
	roomy.Known = append(roomy.Known, knows("behind.com", 9), knownOf("", 9))[:len(f.Known)]
	return roomy, whole
}

func scribbleFront(f impl.Front) {
	scribbleSched(f.S)
	for _, l := range listsOf(f.Seen) {
		scribble(l[:cap(l)])
	}
	scribbleAll(f.Seen)
	for _, r := range f.Rules {
		for i := range r.Parts[:cap(r.Parts)] {
			r.Parts[:cap(r.Parts)][i] = "written"
		}
	}
	for _, k := range f.Known {
		for i := range k.Lines[:cap(k.Lines)] {
			k.Lines[:cap(k.Lines)][i] = disallow("/written")
		}
	}
	l, known := f.Rules[:cap(f.Rules)], f.Known[:cap(f.Known)]
	for i := range l {
		l[i] = plainRule("written")
	}
	for i := range known {
		known[i] = knownOf("written", -1)
	}
}

// behind are the lists of f with all that lies behind their length.
func behind(f impl.Front) []any {
	return []any{f.Rules[:cap(f.Rules)], f.Known[:cap(f.Known)], f.S.Sites[:cap(f.S.Sites)], f.S.Leases[:cap(f.S.Leases)], f.Seen.Runs[:cap(f.Seen.Runs)]}
}

func TestFrontsLeaveTheirArgument(t *testing.T) {
	for _, f := range frontsToAsk() {
		roomy, whole := roomyFront(f)
		roomyBefore, wholeBefore := roomyFront(f)
		left := func(why string) {
			t.Helper()
			if !sameFront(roomy, f) || !reflect.DeepEqual(whole, wholeBefore) || !reflect.DeepEqual(behind(roomy), behind(roomyBefore)) {
				t.Fatalf("%s: written into %s, or behind it", why, frontText(f))
			}
		}
		if impl.FrontOk(roomy) != wantFrontOk(f) || impl.MayFetch(roomy, "http://behind.com/") != impl.MayUnknown {
			t.Errorf("read behind %s", frontText(f))
		}
		for _, key := range webKeys {
			if impl.MayFetch(roomy, key) != wantMay(f, key) {
				t.Errorf("MayFetch %q: read behind %s", key, frontText(f))
			}
		}
		left("FrontOk, MayFetch")
		for _, call := range frontCalls() {
			after, plain := call.ask(roomy), call.ask(copyOfFront(f))
			if !sameFront(after, plain) {
				t.Errorf("%s: of %s, with room behind, comes %s; want %s", call.why, frontText(f), frontText(after), frontText(plain))
			}
			left(call.why)
			scribbleFront(after)
			left(call.why + ", written into")
		}
		after, _ := impl.FrontNew(roomy.Rules, "wayfarer", 1, 1)
		scribbleFront(after)
		left("FrontNew, written into")
	}
}

// ownFrontTexts gives each text memory of its own, so that no two lie in one.
func ownFrontTexts(f impl.Front) impl.Front {
	f = copyOfFront(f)
	f.Agent, f.S, f.Seen = strings.Clone(f.Agent), ownTexts(f.S), ownKeys(f.Seen)
	for _, r := range f.Rules {
		for i := range r.Parts {
			r.Parts[i] = strings.Clone(r.Parts[i])
		}
	}
	for i := range f.Known {
		f.Known[i].Origin = strings.Clone(f.Known[i].Origin)
		for k := range f.Known[i].Lines {
			f.Known[i].Lines[k].Pattern = strings.Clone(f.Known[i].Lines[k].Pattern)
		}
	}
	return f
}

func textsInFront(f impl.Front) []string {
	l := append(textsIn(f.S), f.Agent)
	for _, r := range f.Rules {
		l = append(l, r.Parts...)
	}
	for _, layer := range listsOf(f.Seen) {
		for _, m := range layer {
			l = append(l, m.Key)
		}
	}
	for _, k := range f.Known {
		l = append(l, k.Origin)
		for _, line := range k.Lines {
			l = append(l, line.Pattern)
		}
	}
	return l
}

// room is where a list lies, with what is behind its length.
type room struct{ from, end uintptr }

func roomAt[T any](l []T) room {
	from, end := roomOf(l)
	return room{from, end}
}

func roomsIn(f impl.Front) []room {
	l := []room{roomAt(f.Rules), roomAt(f.Known), roomAt(f.S.Sites), roomAt(f.S.Leases), roomAt(f.Seen.Mem), roomAt(f.Seen.Runs)}
	for _, r := range f.Rules {
		l = append(l, roomAt(r.Parts))
	}
	for _, k := range f.Known {
		l = append(l, roomAt(k.Lines))
	}
	for _, site := range f.S.Sites {
		l = append(l, roomAt(site.Queue))
	}
	for _, run := range f.Seen.Runs {
		l = append(l, roomAt(run))
	}
	return slices.DeleteFunc(l, func(r room) bool { return r.from == r.end })
}

// sharesRoom tells whether any two of these lie in each other.
func sharesRoom(l []room) bool {
	l = slices.Clone(l)
	slices.SortFunc(l, func(a, b room) int { return int(a.from) - int(b.from) })
	for i := 1; i < len(l); i++ {
		if l[i].from < l[i-1].end {
			return true
		}
	}
	return false
}

func textRoom(s string) room {
	from := uintptr(unsafe.Pointer(unsafe.StringData(s)))
	return room{from, from + uintptr(len(s))}
}

func textRooms(l []string) []room {
	rooms := []room{}
	for _, s := range l {
		if s != "" {
			rooms = append(rooms, textRoom(s))
		}
	}
	return rooms
}

// liesAmong tells whether one of these begins within one of those.
func liesAmong(l, in []room) bool {
	in = slices.Clone(in)
	slices.SortFunc(in, func(a, b room) int { return int(a.from) - int(b.from) })
	for _, r := range l {
		after, _ := slices.BinarySearchFunc(in, r.from, func(of room, at uintptr) int {
			if of.from <= at {
				return -1
			}
			return 1
		})
		if after > 0 && r.from < in[after-1].end {
			return true
		}
	}
	return false
}

func TestFrontsAreNewMemory(t *testing.T) {
	for _, f := range frontsToAsk() {
		f = ownFrontTexts(f)
		texts := textRooms(textsInFront(f))
		for _, call := range frontCalls() {
			after, again := call.ask(f), call.ask(f)
			if sharesRoom(roomsIn(after)) {
				t.Errorf("%s: two lists of %s share memory", call.why, frontText(after))
			}
			for _, other := range []impl.Front{f, again} {
				if sharesRoom(append(roomsIn(after), roomsIn(other)...)) {
					t.Errorf("%s: %s shares memory with %s", call.why, frontText(after), frontText(other))
				}
			}
			if liesAmong(textRooms(textsInFront(after)), texts) {
				t.Errorf("%s: %s has texts in the memory of %s", call.why, frontText(after), frontText(f))
			}
		}
		after, key := impl.Next(f)
		if key != "" && liesAmong([]room{textRoom(key)}, append(texts, textRooms(textsInFront(after))...)) {
			t.Errorf("%q lies in the memory of %s", key, frontText(f))
		}
	}
}

func TestFrontTextsAreNewMemory(t *testing.T) {
	l := ownFrontTexts(impl.Front{Rules: webRules}).Rules
	agent := strings.Clone("wayfarer")
	f, _ := impl.FrontNew(l, agent, 10, 25)
	if liesAmong(textRooms(textsInFront(f)), textRooms(append(textsInFront(impl.Front{Rules: l}), agent))) || sharesRoom(append(roomsIn(f), roomsIn(impl.Front{Rules: l})...)) {
		t.Error("a new one lies in its arguments' memory")
	}
	text, body := strings.Clone("http://a.com/x"), strings.Clone("user-agent: *\ndisallow: /x\nallow: /x/y\n")
	f, _ = impl.Found(f, text, 5)
	f, _ = impl.Tell(f, text, body, 5)
	if len(f.Known) != 1 || len(f.Known[0].Lines) != 2 || liesAmong(textRooms(textsInFront(f)), textRooms([]string{text, body})) {
		t.Error("what is found or told lies in its argument's memory", frontText(f))
	}
}

// Two calls on one frontier make two answers that know nothing of each other.
func TestTwoOfOneFront(t *testing.T) {
	for _, f := range []impl.Front{web(), crawl("10 25 0 0"), seenFull(399), crawl(webTold), {}} {
		for _, one := range frontCalls() {
			first := one.ask(f)
			kept := copyOfFront(first)
			for _, other := range frontCalls() {
				scribbleFront(other.ask(f))
				scribbleFront(other.ask(first))
			}
			if !sameFront(first, kept) {
				t.Fatalf("%s: of %s came %s, which has become %s", one.why, frontText(f), frontText(kept), frontText(first))
			}
		}
	}
}

func TestFrontsKeepNothing(t *testing.T) {
	want, wantKey := impl.Next(foundIn(t, web(), "http://new.com/", 5))
	for _, x := range append(wrongFronts, rightFronts...) {
		for _, call := range frontCalls() {
			call.ask(x.f)
		}
		impl.MayFetch(x.f, "http://new.com/")
		after, code := impl.Found(web(), "http://new.com/", 5)
		after, key := impl.Next(after)
		if code != impl.FrontGood || key != wantKey || !sameFront(after, want) {
			t.Fatalf("behind %s: %s, %q", x.why, frontText(after), key)
		}
		f, ok := impl.FrontNew(nil, "", 10, 25)
		if !ok || !sameFront(f, impl.Front{S: impl.Sched{Delay: 10, Span: 25}}) || impl.MayFetch(f, "http://a.com/") != impl.MayUnknown {
			t.Fatalf("behind %s: a new one is %s", x.why, frontText(f))
		}
	}
}

func TestFrontsOfVeryMany(t *testing.T) {
	const many = 200000
	long := strings.Repeat("x", many)
	for _, x := range []struct {
		why    string
		change func(f *impl.Front)
	}{
		{"very many origins", func(f *impl.Front) { f.Known = slices.Repeat(f.Known, many) }},
		{"very many lines", func(f *impl.Front) { f.Known[0].Lines = slices.Repeat(lines{disallow("/x")}, many) }},
		{"very many rules", func(f *impl.Front) { f.Rules = slices.Repeat(f.Rules, many) }},
		{"very many parts", func(f *impl.Front) { f.Rules[0].Parts = slices.Repeat([]string{"com"}, many) }},
		{"very many sites", func(f *impl.Front) { f.S.Sites = slices.Repeat(f.S.Sites, many) }},
		{"very many leases", func(f *impl.Front) { f.S.Leases = slices.Repeat(f.S.Leases, many) }},
		{"very many Marks", func(f *impl.Front) { f.Seen.Mem = slices.Repeat(marks{mark("x", 2)}, many) }},
		{"a long agent", func(f *impl.Front) { f.Agent = long }},
		{"a long key", func(f *impl.Front) { f.S.Sites[0].Queue[0].Key = "http://1.2.3.4/" + long }},
		{"a long name", func(f *impl.Front) { f.S.Sites[3].Name = "com" + long; f.Rules[0].Parts[0] = long }},
	} {
		f := wrongBy(x.change)
		soon(t, x.why, func() bool {
			for _, call := range frontCalls()[:6] {
				if !sameFront(call.ask(f), f) {
					return false
				}
			}
			return !impl.FrontOk(f) && impl.MayFetch(f, "http://a.com/private") == impl.MayNot
		}, true)
	}
	soon(t, "long texts", func() bool {
		_, a := impl.Found(web(), "http://a.com/"+long, 5)
		_, b := impl.Tell(web(), "http://a.com/", "user-agent: *\ndisallow: /"+long, 5)
		_, c := impl.DoneWith(web(), long)
		_, d := impl.Return(web(), long)
		return a == impl.FrontUrl && b == 0 && c == impl.FrontNone && d == impl.FrontNone && impl.MayFetch(web(), long) == impl.MayUnknown
	}, true)
	soon(t, "stars at a long path, many times", func() bool {
		f := crawl("1 1 0 1 | a.com 0 a.com/x:5:0")
		key := "http://a.com/" + strings.Repeat("a", 1900)
		f, a := impl.Found(f, key, 9)
		f, b := impl.Tell(f, "http://a.com/", "user-agent: *\n"+strings.Repeat("disallow: /"+strings.Repeat("*a", 50)+"*b\n", 150), 5)
		_, out := impl.Next(f)
		return a == 0 && b == 0 && len(f.Known[0].Lines) == mostTold && out == key
	}, true)
}
