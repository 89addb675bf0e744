package tests

import (
	"fmt"
	"maps"
	"math"
	"math/rand"
	"reflect"
	"slices"
	"strconv"
	"strings"
	"testing"

	"loop.example/g00191/impl"
)

const (
	mostWaiting = 200
	lastSeq     = 1000000
	lastTick    = 100000000
	lastReady   = 1000000000
)

func waits(key string, prio, seq int) impl.Waiting {
	return impl.Waiting{Key: key, Prio: prio, Seq: seq}
}

func siteAt(name string, ready int, queue ...impl.Waiting) impl.Site {
	return impl.Site{Name: name, Ready: ready, Queue: queue}
}

func leased(key, site string, prio, until int) impl.Lease {
	return impl.Lease{Key: key, Site: site, Prio: prio, Until: until}
}

func numberOf(word string) int {
	n, err := strconv.Atoi(word)
	if err != nil {
		panic(word)
	}
	return n
}

// queues reads a Sched: Delay, Span, Now and Seq; behind a bar each a site's
// name, Ready and what waits there (Key:Prio:Seq); behind an equals sign the
// leases (Key:Site:Prio:Until).
func queues(told string) impl.Sched {
	rest, leases, _ := strings.Cut(told, "=")
	parts := strings.Split(rest, "|")
	n := strings.Fields(parts[0])
	s := impl.Sched{Delay: numberOf(n[0]), Span: numberOf(n[1]), Now: numberOf(n[2]), Seq: numberOf(n[3])}
	for _, part := range parts[1:] {
		words := strings.Fields(part)
		site := siteAt(words[0], numberOf(words[1]))
		for _, word := range words[2:] {
			w := strings.Split(word, ":")
			site.Queue = append(site.Queue, waits(w[0], numberOf(w[1]), numberOf(w[2])))
		}
		s.Sites = append(s.Sites, site)
	}
	for _, word := range strings.Fields(leases) {
		l := strings.Split(word, ":")
		s.Leases = append(s.Leases, leased(l[0], l[1], numberOf(l[2]), numberOf(l[3])))
	}
	return s
}

func schedText(s impl.Sched) string {
	text := fmt.Sprint(s.Delay, s.Span, s.Now, s.Seq)
	for i, site := range s.Sites {
		if i == 20 {
			text += fmt.Sprintf(" | .. %d sites", len(s.Sites))
			break
		}
		text += fmt.Sprintf(" | %.20s %d", site.Name, site.Ready)
		for _, w := range site.Queue[:min(20, len(site.Queue))] {
			text += fmt.Sprintf(" %.20s:%d:%d", w.Key, w.Prio, w.Seq)
		}
	}
	text += " ="
	for _, l := range s.Leases[:min(20, len(s.Leases))] {
		text += fmt.Sprintf(" %.20s:%.20s:%d:%d", l.Key, l.Site, l.Prio, l.Until)
	}
	return text
}

func sameSched(a, b impl.Sched) bool {
	sites := slices.EqualFunc(a.Sites, b.Sites, func(a, b impl.Site) bool {
		return a.Name == b.Name && a.Ready == b.Ready && slices.Equal(a.Queue, b.Queue)
	})
	numbers := a.Delay == b.Delay && a.Span == b.Span && a.Now == b.Now && a.Seq == b.Seq
	return numbers && sites && slices.Equal(a.Leases, b.Leases)
}

func copyOfSched(s impl.Sched) impl.Sched {
	s.Sites, s.Leases = slices.Clone(s.Sites), slices.Clone(s.Leases)
	for i := range s.Sites {
		s.Sites[i].Queue = slices.Clone(s.Sites[i].Queue)
	}
	return s
}

// turnOf is lower for what is ahead.
func turnOf(w impl.Waiting) int { return (1000-w.Prio)*2*lastSeq + w.Seq }

func wantWaitingOk(w impl.Waiting, seq int) bool {
	return w.Key != "" && w.Prio >= 0 && w.Prio <= 1000 && w.Seq >= 0 && w.Seq < seq
}

// wantSchedOk counts how often each key, each Seq and each name is there.
func wantSchedOk(s impl.Sched) bool {
	keys, seqs, names := map[string]int{}, map[int]int{}, map[string]int{}
	right := s.Delay > 0 && s.Delay < 1001 && s.Span > 0 && s.Span < 10001 && s.Now >= 0 && s.Now <= lastTick && s.Seq >= 0 && s.Seq <= lastSeq
	together, nameAhead, keyAhead := len(s.Leases), "", ""
	for _, site := range s.Sites {
		right = right && nameAhead < site.Name && site.Ready >= 0 && site.Ready <= lastReady
		names[site.Name]++
		nameAhead = site.Name
		for i, w := range site.Queue {
			right = right && wantWaitingOk(w, s.Seq) && (i == 0 || turnOf(site.Queue[i-1]) < turnOf(w))
			keys[w.Key]++
			seqs[w.Seq]++
			together++
		}
	}
	for _, l := range s.Leases {
		right = right && keyAhead < l.Key && names[l.Site] == 1 && l.Prio >= 0 && l.Prio <= 1000 && l.Until >= 0 && l.Until <= lastReady
		keys[l.Key]++
		keyAhead = l.Key
	}
	return right && together <= mostWaiting && len(s.Sites) <= mostWaiting && len(keys) == together && len(seqs)+len(s.Leases) == together
}

// placed is what waits, with its site beside it.
type placed struct {
	site      string
	prio, seq int
}

// flat is a right Sched without any order: sites by when they may be asked
// again, what waits and what is leased by the keys.
type flat struct {
	numbers impl.Sched
	ready   map[string]int
	waiting map[string]placed
	leases  map[string]impl.Lease
}

func flatten(s impl.Sched) flat {
	f := flat{s, map[string]int{}, map[string]placed{}, map[string]impl.Lease{}}
	for _, site := range s.Sites {
		f.ready[site.Name] = site.Ready
		for _, w := range site.Queue {
			f.waiting[w.Key] = placed{site.Name, w.Prio, w.Seq}
		}
	}
	for _, l := range s.Leases {
		f.leases[l.Key] = l
	}
	return f
}

func (f *flat) sched() impl.Sched {
	s := f.numbers
	s.Sites, s.Leases = nil, nil
	for _, name := range slices.Sorted(maps.Keys(f.ready)) {
		site := siteAt(name, f.ready[name])
		for key, p := range f.waiting {
			if p.site == name {
				site.Queue = append(site.Queue, waits(key, p.prio, p.seq))
			}
		}
		slices.SortFunc(site.Queue, func(a, b impl.Waiting) int { return turnOf(a) - turnOf(b) })
		s.Sites = append(s.Sites, site)
	}
	for _, key := range slices.Sorted(maps.Keys(f.leases)) {
		s.Leases = append(s.Leases, f.leases[key])
	}
	return s
}

func (f *flat) wait(site, key string, prio int) {
	f.ready[site] += 0
	f.waiting[key] = placed{site, prio, f.numbers.Seq}
	f.numbers.Seq++
}

func (f *flat) waitAgain(key string) {
	l := f.leases[key]
	delete(f.leases, key)
	f.wait(l.Site, key, l.Prio)
}

func wantNew(delay, span int) impl.Sched {
	if delay < 1 || delay > 1000 || span < 1 || span > 10000 {
		return impl.Sched{}
	}
	return impl.Sched{Delay: delay, Span: span}
}

func wantEnqueue(s impl.Sched, site, key string, prio int) (impl.Sched, bool) {
	if !wantSchedOk(s) || site == "" || key == "" || prio < 0 || prio > 1000 || s.Seq == lastSeq {
		return s, false
	}
	f := flatten(s)
	_, waiting := f.waiting[key]
	_, isLeased := f.leases[key]
	if waiting || isLeased || len(f.waiting)+len(f.leases) == mostWaiting {
		return s, false
	}
	f.wait(site, key, prio)
	if len(f.ready) > mostWaiting {
		return s, false
	}
	return f.sched(), true
}

func wantRipe(s impl.Sched) []int {
	l := []int{}
	for i := range s.Sites {
		if len(s.Sites[i].Queue) != 0 && !(s.Sites[i].Ready > s.Now) {
			l = append(l, i)
		}
	}
	return l
}

func wantHandOut(s impl.Sched, site, k int) (impl.Sched, string) {
	if !wantSchedOk(s) || site < 0 || site >= len(s.Sites) || s.Sites[site].Ready > s.Now || k < 0 || k >= len(s.Sites[site].Queue) {
		return s, ""
	}
	f, name, w := flatten(s), s.Sites[site].Name, s.Sites[site].Queue[k]
	delete(f.waiting, w.Key)
	f.leases[w.Key] = leased(w.Key, name, w.Prio, s.Now+s.Span)
	f.ready[name] = s.Now + s.Delay
	return f.sched(), w.Key
}

func hasLease(s impl.Sched, key string) bool {
	return slices.ContainsFunc(s.Leases, func(l impl.Lease) bool { return l.Key == key })
}

func wantEnded(s impl.Sched, key string) (impl.Sched, bool) {
	if !wantSchedOk(s) || !hasLease(s, key) {
		return s, false
	}
	f := flatten(s)
	delete(f.leases, key)
	return f.sched(), true
}

func wantGiveBack(s impl.Sched, key string) (impl.Sched, bool) {
	if !wantSchedOk(s) || !hasLease(s, key) || s.Seq == lastSeq {
		return s, false
	}
	f := flatten(s)
	f.waitAgain(key)
	return f.sched(), true
}

func wantPass(s impl.Sched, n int) impl.Sched {
	if !wantSchedOk(s) || n < 1 || n > 10000 || s.Now+n > lastTick {
		return s
	}
	f := flatten(s)
	f.numbers.Now += n
	for _, key := range slices.Sorted(maps.Keys(f.leases)) {
		if f.leases[key].Until-s.Now <= n {
			f.waitAgain(key)
		}
	}
	if f.numbers.Seq > lastSeq {
		return s
	}
	return f.sched()
}

// wantAnew gives back one lease behind the other, as long as there is a Seq:
// GiveBack leaves what has none as it was.
func wantAnew(s impl.Sched) impl.Sched {
	if !wantSchedOk(s) {
		return s
	}
	f := flatten(s)
	for _, l := range s.Leases[:min(len(s.Leases), lastSeq-s.Seq)] {
		f.waitAgain(l.Key)
	}
	for name := range f.ready {
		f.ready[name] = s.Now + s.Delay
	}
	return f.sched()
}

// whereabouts tells of each key how it stands there: once, as often as it is,
// with its site and its Prio, which stay as long as it does.
func whereabouts(s impl.Sched) map[string]string {
	all := map[string]string{}
	for _, site := range s.Sites {
		for _, w := range site.Queue {
			all[w.Key] += fmt.Sprintf("%s %d;", site.Name, w.Prio)
		}
	}
	for _, l := range s.Leases {
		all[l.Key] += fmt.Sprintf("%s %d;", l.Site, l.Prio)
	}
	return all
}

func namesIn(s impl.Sched) []string {
	l := []string{}
	for _, site := range s.Sites {
		l = append(l, site.Name)
	}
	return l
}

// checkKept holds the promise: what was there is there, once, at its site, with
// its Prio; but for a key that ended or came.
func checkKept(t *testing.T, why string, before, after impl.Sched, ended, came string) {
	t.Helper()
	if !impl.SchedOk(after) {
		t.Fatalf("%s: of %s comes %s, which is not SchedOk", why, schedText(before), schedText(after))
	}
	was, is := whereabouts(before), whereabouts(after)
	delete(was, ended)
	if came != "" {
		if is[came] == "" {
			t.Fatalf("%s: %q is not in %s", why, came, schedText(after))
		}
		delete(is, came)
	}
	if !maps.Equal(was, is) {
		t.Fatalf("%s: of %s comes %s: lost, or twice", why, schedText(before), schedText(after))
	}
	for _, name := range namesIn(before) {
		if !slices.Contains(namesIn(after), name) {
			t.Fatalf("%s: the site %q is lost: %s", why, name, schedText(after))
		}
	}
}

// answered holds what a call made of s against what is wanted. It refuses with
// s as it was.
func answered(t *testing.T, why string, s, before, after, want impl.Sched, ok, wantOk bool, ended, came string) {
	t.Helper()
	if ok != wantOk || !sameSched(after, want) {
		t.Fatalf("%s: of %s comes %s, %v; want %s, %v", why, schedText(before), schedText(after), ok, schedText(want), wantOk)
	}
	if !sameSched(s, before) {
		t.Fatalf("%s: %s itself has become %s", why, schedText(before), schedText(s))
	}
	if !ok && !sameSched(after, before) {
		t.Fatalf("%s: refused, %s is answered as %s", why, schedText(before), schedText(after))
	}
	if wantSchedOk(before) {
		checkKept(t, why, before, after, ended, came)
	}
}

func checkEnqueue(t *testing.T, s impl.Sched, site, key string, prio int) impl.Sched {
	t.Helper()
	before, came := copyOfSched(s), ""
	after, ok := impl.Enqueue(s, site, key, prio)
	want, wantOk := wantEnqueue(before, site, key, prio)
	if wantOk {
		came = key
	}
	answered(t, fmt.Sprintf("Enqueue %.20q %.20q %d", site, key, prio), s, before, after, want, ok, wantOk, "", came)
	return after
}

func checkHandOut(t *testing.T, s impl.Sched, site, k int) (impl.Sched, string) {
	t.Helper()
	before := copyOfSched(s)
	after, key := impl.HandOut(s, site, k)
	want, wantKey := wantHandOut(before, site, k)
	why := fmt.Sprintf("HandOut %d %d", site, k)
	if key != wantKey {
		t.Fatalf("%s: of %s comes %q; want %q", why, schedText(before), key, wantKey)
	}
	answered(t, why, s, before, after, want, key != "", wantKey != "", "", "")
	if key != "" && slices.Contains(impl.Ripe(after), site) {
		t.Fatalf("%s: of %s comes %s, where the site is ripe at once", why, schedText(before), schedText(after))
	}
	return after, key
}

func checkEnded(t *testing.T, s impl.Sched, key string) impl.Sched {
	t.Helper()
	before, ended := copyOfSched(s), ""
	after, ok := impl.Ended(s, key)
	want, wantOk := wantEnded(before, key)
	if wantOk {
		ended = key
	}
	answered(t, fmt.Sprintf("Ended %.20q", key), s, before, after, want, ok, wantOk, ended, "")
	return after
}

func checkGiveBack(t *testing.T, s impl.Sched, key string) impl.Sched {
	t.Helper()
	before := copyOfSched(s)
	after, ok := impl.GiveBack(s, key)
	want, wantOk := wantGiveBack(before, key)
	answered(t, fmt.Sprintf("GiveBack %.20q", key), s, before, after, want, ok, wantOk, "", "")
	return after
}

func checkPass(t *testing.T, s impl.Sched, n int) impl.Sched {
	t.Helper()
	before := copyOfSched(s)
	after, want := impl.PassTime(s, n), wantPass(before, n)
	answered(t, fmt.Sprintf("PassTime %d", n), s, before, after, want, after.Now != s.Now, want.Now != before.Now, "", "")
	return after
}

func checkAnew(t *testing.T, s impl.Sched) impl.Sched {
	t.Helper()
	before := copyOfSched(s)
	after, want := impl.Anew(s), wantAnew(before)
	answered(t, "Anew", s, before, after, want, true, true, "", "")
	if wantSchedOk(before) && len(impl.Ripe(after)) != 0 {
		t.Fatalf("anew, of %s comes %s, where a site is ripe at once", schedText(before), schedText(after))
	}
	return after
}

func keysIn(s impl.Sched) []string { return slices.Sorted(maps.Keys(whereabouts(s))) }

var farNumbers = []int{math.MinInt, math.MinInt + 1, -1 << 32, -lastSeq, -1, 1 << 32, 1<<32 + 1, math.MaxInt - lastTick, math.MaxInt - 1, math.MaxInt}

// passes are the ticks that may matter, those at which a lease of s is just
// over among them.
func passes(s impl.Sched) []int {
	l := append([]int{0, 1, 2, 9999, 10000, 10001, lastTick - s.Now, lastTick - s.Now + 1}, farNumbers...)
	for _, lease := range s.Leases {
		l = append(l, lease.Until-s.Now-1, lease.Until-s.Now, lease.Until-s.Now+1)
	}
	slices.Sort(l)
	return slices.Compact(l)
}

// checkSched asks everything of a Sched, right or wrong.
func checkSched(t *testing.T, s impl.Sched) {
	t.Helper()
	if got := impl.SchedOk(s); got != wantSchedOk(s) {
		t.Fatalf("SchedOk(%s) = %v", schedText(s), got)
	}
	if got, want := impl.Ripe(s), wantRipe(s); !slices.Equal(got, want) {
		t.Fatalf("Ripe(%s) = %v; want %v", schedText(s), got, want)
	}
	for site := -2; site <= len(s.Sites)+1; site++ {
		last := 1
		if site >= 0 && site < len(s.Sites) {
			last += len(s.Sites[site].Queue)
		}
		for k := -2; k <= last; k++ {
			checkHandOut(t, s, site, k)
		}
	}
	for _, n := range farNumbers {
		checkHandOut(t, s, n, 0)
		checkHandOut(t, s, 0, n)
		checkEnqueue(t, s, "a", "new", n)
	}
	for _, key := range append(keysIn(s), "", "new", "K1", "k", "a", "\x00") {
		checkEnded(t, s, key)
		checkGiveBack(t, s, key)
		checkEnqueue(t, s, "a", key, 5)
	}
	for _, name := range append(namesIn(s), "", "0", "new", "zz", "\xff", "\x00") {
		for _, prio := range []int{0, 5, 1000, 1001} {
			checkEnqueue(t, s, name, "new", prio)
			checkEnqueue(t, s, name, "", prio)
		}
	}
	for _, n := range passes(s) {
		checkPass(t, s, n)
	}
	checkAnew(t, s)
}

func TestSchedNumbers(t *testing.T) {
	if impl.MaxQueue != mostWaiting {
		t.Error(impl.MaxQueue)
	}
}

func TestSchedNew(t *testing.T) {
	for _, x := range []struct {
		why         string
		delay, span int
		ok          bool
	}{
		{"some", 10, 25, true},
		{"the least", 1, 1, true},
		{"the most", 1000, 10000, true},
		{"the least Delay, the most Span", 1, 10000, true},
		{"the most Delay, the least Span", 1000, 1, true},
		{"no Delay", 0, 25, false},
		{"a Delay below 0", -1, 25, false},
		{"a Delay one more", 1001, 25, false},
		{"a Delay as long as a Span may be", 10000, 25, false},
		{"no Span", 10, 0, false},
		{"a Span below 0", 10, -25, false},
		{"a Span one more", 10, 10001, false},
		{"none", 0, 0, false},
		{"both one more", 1001, 10001, false},
	} {
		s := impl.SchedNew(x.delay, x.span)
		if x.ok && !sameSched(s, impl.Sched{Delay: x.delay, Span: x.span}) || !x.ok && !sameSched(s, impl.Sched{}) {
			t.Errorf("%s: SchedNew(%d, %d) = %s", x.why, x.delay, x.span, schedText(s))
		}
		if impl.SchedOk(s) != x.ok || len(impl.Ripe(s)) != 0 {
			t.Errorf("%s: SchedOk = %v", x.why, !x.ok)
		}
		checkSched(t, s)
	}
	for delay := -2; delay < 1100; delay++ {
		for _, span := range append([]int{-1, 0, 1, 2, 9999, 10000, 10001, delay}, farNumbers...) {
			if s := impl.SchedNew(delay, span); !sameSched(s, wantNew(delay, span)) {
				t.Errorf("SchedNew(%d, %d) = %s", delay, span, schedText(s))
			}
			if s := impl.SchedNew(span, delay); !sameSched(s, wantNew(span, delay)) {
				t.Errorf("SchedNew(%d, %d) = %s", span, delay, schedText(s))
			}
		}
	}
}

// some is a Sched with several that wait, and several leases.
const some = "10 25 7 9 | a 0 | b 7 k3:9:2 k1:5:0 k4:5:3 | c 8 k5:1000:4 | d 0 k6:0:1 = k0:b:5:30 k2:a:7:8 k9:b:0:7"

var rightScheds = []struct{ why, s string }{
	{"nothing", "10 25 0 0"},
	{"several", some},
	{"the least Delay", "1 25 0 0"},
	{"the most Delay", "1000 25 0 1 | a 0 k1:5:0"},
	{"the least Span", "10 1 0 1 | a 0 k1:5:0"},
	{"the most Span", "10 10000 0 1 | a 0 k1:5:0"},
	{"the last Now", "10 25 100000000 1 | a 100000000 k1:5:0"},
	{"the last Now, the most Delay and Span", "1000 10000 100000000 2 | a 0 k1:5:0 k2:5:1 = k3:a:5:100000000"},
	{"a Seq that nothing has", "10 25 0 1000000"},
	{"the last Seq", "10 25 0 1000000 | a 0 k1:5:999999"},
	{"Seqs far apart", "10 25 0 500000 | a 0 k1:5:0 k2:5:499999"},
	{"a lease, and nothing that waits", "10 25 0 1 | a 10 = k1:a:5:25"},
	{"a lease, and no Seq at all", "10 25 0 0 | a 10 = k1:a:5:25"},
	{"one site with nothing that waits", "10 25 0 0 | a 0"},
	{"several sites with nothing that waits", "10 25 0 0 | a 0 | b 5 | c 1000000000"},
	{"names byte by byte", "10 25 0 0 | A 0 | Z 0 | a 0 | aa 0 | b 0 | z 0 | é 0 | \xff 0"},
	{"the last Ready", "10 25 0 1 | a 1000000000 k1:5:0"},
	{"the least Until", "10 25 5 1 | a 0 = k1:a:5:0"},
	{"the last Until", "10 25 5 1 | a 0 = k1:a:5:1000000000"},
	{"the least Prio and the most", "10 25 5 2 | a 0 k1:1000:1 k2:0:0 = k3:a:0:9 k4:a:1000:9"},
	{"one Prio, in order of Seq", "10 25 0 4 | a 0 k4:5:0 k3:5:1 k2:5:2 k1:5:3"},
	{"the greatest Prio first, Seqs falling", "10 25 0 4 | a 0 k1:9:3 k2:8:2 k3:7:1 k4:6:0"},
	{"Prios as numbers, not as texts", "10 25 0 3 | a 0 k1:100:0 k2:20:1 k3:9:2"},
	{"Seqs as numbers, not as texts", "10 25 0 20 | a 0 k1:5:2 k2:5:9 k3:5:10"},
	{"Seqs of two sites in turns", "10 25 0 4 | a 0 k1:5:0 k3:5:2 | b 0 k2:5:1 k4:5:3"},
	{"a key that is a site's name", "10 25 0 1 | a 0 a:5:0"},
	{"keys that differ in letters alone", "10 25 0 2 | a 0 k:5:0 = K:a:5:9"},
	{"leases byte by byte", "10 25 0 0 | a 0 | b 0 = 10:b:5:9 9:a:5:9 A:b:5:9 a:a:5:9 aa:b:5:9"},
	{"all leases of one Until", "10 25 0 0 | a 0 = k1:a:5:9 k2:a:5:9 k3:a:5:9"},
}

func TestRightScheds(t *testing.T) {
	for _, x := range rightScheds {
		if s := queues(x.s); !impl.SchedOk(s) {
			t.Errorf("%s: SchedOk(%s) = false", x.why, x.s)
		}
		checkSched(t, queues(x.s))
	}
}

var wrongScheds = []struct {
	why string
	s   impl.Sched
}{
	{"the zero one", impl.Sched{}},
	{"no Delay", queues("0 25 0 0")},
	{"a Delay below 0", queues("-1 25 0 0")},
	{"a Delay one more", queues("1001 25 0 1 | a 0 k1:5:0")},
	{"no Span", queues("10 0 0 0")},
	{"a Span below 0", queues("10 -1 0 0")},
	{"a Span one more", queues("10 10001 0 1 | a 0 k1:5:0")},
	{"a Now below 0", queues("10 25 -1 1 | a 0 k1:5:0")},
	{"a Now one more", queues("10 25 100000001 1 | a 0 k1:5:0 = k2:a:5:9")},
	{"a Seq below 0", queues("10 25 0 -1")},
	{"a Seq one more", queues("10 25 0 1000001 | a 0 k1:5:0 = k2:a:5:9")},
	{"numbers at their least", impl.Sched{Delay: math.MinInt, Span: math.MinInt, Now: math.MinInt, Seq: math.MinInt}},
	{"numbers at their most", impl.Sched{Delay: math.MaxInt, Span: math.MaxInt, Now: math.MaxInt, Seq: math.MaxInt}},
	{"Now at its most, one waits", impl.Sched{Delay: 10, Span: 25, Now: math.MaxInt, Seq: 1, Sites: []impl.Site{siteAt("a", math.MaxInt, waits("k1", 5, 0))}}},
	{"a name of no bytes", impl.Sched{Delay: 10, Span: 25, Seq: 1, Sites: []impl.Site{siteAt("", 0, waits("k1", 5, 0))}}},
	{"a name of no bytes, with nothing that waits", impl.Sched{Delay: 10, Span: 25, Sites: []impl.Site{siteAt("", 0), siteAt("a", 0)}}},
	{"sites out of order", queues("10 25 0 2 | b 0 k1:5:0 | a 0 k2:5:1")},
	{"sites out of order, without anything", queues("10 25 0 0 | a 0 | c 0 | b 0")},
	{"sites out of order, large letters behind", queues("10 25 0 0 | a 0 | B 0")},
	{"a site twice", queues("10 25 0 2 | a 0 k1:5:0 | a 0 k2:5:1")},
	{"a site twice, with a lease", queues("10 25 0 0 | a 0 | a 0 = k1:a:5:9")},
	{"a Ready below 0", queues("10 25 0 1 | a -1 k1:5:0")},
	{"a Ready one more", queues("10 25 0 1 | a 1000000001 k1:5:0")},
	{"a wrong Ready, without anything", queues("10 25 0 0 | a 0 | b -1")},
	{"a key of no bytes waits", impl.Sched{Delay: 10, Span: 25, Seq: 1, Sites: []impl.Site{siteAt("a", 0, waits("", 5, 0))}}},
	{"a key of no bytes is leased", impl.Sched{Delay: 10, Span: 25, Seq: 1, Sites: []impl.Site{siteAt("a", 0)}, Leases: []impl.Lease{leased("", "a", 5, 9)}}},
	{"a Prio below 0 waits", queues("10 25 0 1 | a 0 k1:-1:0")},
	{"a Prio one more waits", queues("10 25 0 1 | a 0 k1:1001:0")},
	{"a Prio below 0 is leased", queues("10 25 0 1 | a 0 = k1:a:-1:9")},
	{"a Prio one more is leased", queues("10 25 0 1 | a 0 = k1:a:1001:9")},
	{"a Seq that is Seq", queues("10 25 0 1 | a 0 k1:5:1")},
	{"a Seq that is 0, of 0", queues("10 25 0 0 | a 0 k1:5:0")},
	{"a Seq above Seq", queues("10 25 0 3 | a 0 k1:5:0 k2:5:9")},
	{"a Seq of one that waits below 0", queues("10 25 0 1 | a 0 k1:5:-1")},
	{"a Seq of one that waits at its least", impl.Sched{Delay: 10, Span: 25, Seq: 1, Sites: []impl.Site{siteAt("a", 0, waits("k1", 5, math.MinInt))}}},
	{"two Seqs the same, at one site", queues("10 25 0 3 | a 0 k1:5:1 k2:5:1")},
	{"two Seqs the same, of two Prios", queues("10 25 0 3 | a 0 k1:6:1 k2:5:1")},
	{"two Seqs the same, at two sites", queues("10 25 0 3 | a 0 k1:5:1 | b 0 k2:5:1")},
	{"a queue out of order by Prio", queues("10 25 0 3 | a 0 k1:5:0 k2:6:1")},
	{"a queue out of order by Seq", queues("10 25 0 3 | a 0 k1:5:1 k2:5:0")},
	{"a queue out of order at its end", queues("10 25 0 4 | a 0 k1:7:0 k2:6:3 k3:6:2")},
	{"a queue with the least Prio first", queues("10 25 0 4 | a 0 k1:1:0 k2:2:1 k3:3:2")},
	{"a key waits twice at one site", queues("10 25 0 3 | a 0 k1:5:0 k1:5:1")},
	{"a key waits twice at two sites", queues("10 25 0 3 | a 0 k1:5:0 | b 0 k1:5:1")},
	{"a key is leased twice", queues("10 25 0 0 | a 0 = k1:a:5:9 k1:a:5:9")},
	{"a key is leased twice, of two sites", queues("10 25 0 0 | a 0 | b 0 = k1:a:5:9 k1:b:5:9")},
	{"a key waits and is leased", queues("10 25 0 1 | a 0 k1:5:0 = k1:a:5:9")},
	{"a key waits and is leased, of two sites", queues("10 25 0 1 | a 0 k1:5:0 | b 0 = k1:b:5:9")},
	{"leases out of order", queues("10 25 0 0 | a 0 = k2:a:5:9 k1:a:5:9")},
	{"leases out of order at their end", queues("10 25 0 0 | a 0 | b 0 = k1:b:5:9 k3:a:5:9 k2:b:5:9")},
	{"leases in order of Until, not of Key", queues("10 25 0 0 | a 0 = k2:a:5:8 k1:a:5:9")},
	{"an Until below 0", queues("10 25 0 0 | a 0 = k1:a:5:-1")},
	{"an Until one more", queues("10 25 0 0 | a 0 = k1:a:5:1000000001")},
	{"an Until at its least", impl.Sched{Delay: 10, Span: 25, Sites: []impl.Site{siteAt("a", 0)}, Leases: []impl.Lease{leased("k1", "a", 5, math.MinInt)}}},
	{"a lease and no site", queues("10 25 0 0 = k1:a:5:9")},
	{"a lease whose site is not there", queues("10 25 0 0 | a 0 | c 0 = k1:b:5:9")},
	{"a lease whose site is a beginning of one", queues("10 25 0 0 | ab 0 = k1:a:5:9")},
	{"a lease of a site of no bytes", impl.Sched{Delay: 10, Span: 25, Sites: []impl.Site{siteAt("a", 0)}, Leases: []impl.Lease{leased("k1", "", 5, 9)}}},
	{"the last lease's site is not there", queues("10 25 0 0 | a 0 = k1:a:5:9 k2:a:5:9 k3:A:5:9")},
	{"all is wrong", queues("0 0 -1 -1 | b -1 k1:-1:9 k1:1001:9 | a -1 = k2:c:-1:-1 k1:a:1001:-1")},
}

// What is not right is refused as it is; what is ripe there is told by the
// words of it.
func TestWrongScheds(t *testing.T) {
	for _, x := range wrongScheds {
		if impl.SchedOk(x.s) {
			t.Errorf("%s: SchedOk(%s) = true", x.why, schedText(x.s))
		}
		enqueued, ok := impl.Enqueue(x.s, "a", "new", 5)
		out, key := impl.HandOut(x.s, 0, 0)
		ended, endedOk := impl.Ended(x.s, "k1")
		back, backOk := impl.GiveBack(x.s, "k1")
		if ok || key != "" || endedOk || backOk {
			t.Errorf("%s: %v, %q, %v, %v", x.why, ok, key, endedOk, backOk)
		}
		for i, after := range []impl.Sched{enqueued, out, ended, back, impl.PassTime(x.s, 1), impl.Anew(x.s)} {
			if !sameSched(after, x.s) {
				t.Errorf("%s: of %s comes %s, by call %d", x.why, schedText(x.s), schedText(after), i)
			}
		}
		checkSched(t, x.s)
	}
}

func TestRipe(t *testing.T) {
	for _, x := range []struct {
		why, s string
		places []int
	}{
		{"no site", "10 25 5 0", nil},
		{"one site", "10 25 5 1 | a 0 k1:5:0", []int{0}},
		{"one site with nothing that waits", "10 25 5 0 | a 0", nil},
		{"just now", "10 25 5 1 | a 5 k1:5:0", []int{0}},
		{"a tick too soon", "10 25 5 1 | a 6 k1:5:0", nil},
		{"a tick ago", "10 25 5 1 | a 4 k1:5:0", []int{0}},
		{"some of several", "10 25 5 9 | a 5 k1:5:0 | b 6 k2:5:1 | c 0 | d 0 k3:5:2 k4:5:3 | e 1000000000 k5:1000:4 | f 5 k6:0:5", []int{0, 3, 5}},
		{"the last one alone", "10 25 5 9 | a 6 k1:5:0 | b 5 | c 5 k2:5:1", []int{2}},
		{"none of several", "10 25 5 9 | a 6 k1:5:0 | b 5 | c 7 k2:5:1", nil},
		{"a site with leases alone", "10 25 5 9 | a 0 = k1:a:5:30", nil},
		{"a site with leases, and one that waits", "10 25 5 9 | a 0 k2:5:1 = k1:a:5:30", []int{0}},
		{"at tick 0", "10 25 0 1 | a 0 k1:5:0", []int{0}},
		{"at the last tick", "10 25 100000000 1 | a 100000000 k1:5:0", []int{0}},
		{"not right, and ripe all the same", "0 0 -5 0 | b -5 k1:-1:9 | a -6 k1:5:0 | a -4 k2:5:1 | c 0 | a -9", []int{0, 1}},
	} {
		if got := impl.Ripe(queues(x.s)); !slices.Equal(got, x.places) {
			t.Errorf("%s: Ripe(%s) = %v; want %v", x.why, x.s, got, x.places)
		}
	}
}

func TestEnqueues(t *testing.T) {
	for _, x := range []struct {
		why, s, site, key string
		prio              int
		after             string
	}{
		{"into nothing", "10 25 0 0", "a", "k1", 5, "10 25 0 1 | a 0 k1:5:0"},
		{"into nothing, late", "10 25 70 40", "a", "k1", 5, "10 25 70 41 | a 0 k1:5:40"},
		{"the least Prio", "10 25 0 0", "a", "k1", 0, "10 25 0 1 | a 0 k1:0:0"},
		{"the most Prio", "10 25 0 0", "a", "k1", 1000, "10 25 0 1 | a 0 k1:1000:0"},
		{"a site ahead", "10 25 0 1 | b 3 k1:5:0", "a", "k2", 5, "10 25 0 2 | a 0 k2:5:1 | b 3 k1:5:0"},
		{"a site behind", "10 25 0 1 | b 3 k1:5:0", "c", "k2", 5, "10 25 0 2 | b 3 k1:5:0 | c 0 k2:5:1"},
		{"a site between", "10 25 0 0 | a 1 | c 2", "b", "k2", 5, "10 25 0 1 | a 1 | b 0 k2:5:0 | c 2"},
		{"a site that goes on", "10 25 0 0 | a 1 | b 2", "aa", "k2", 5, "10 25 0 1 | a 1 | aa 0 k2:5:0 | b 2"},
		{"a site in large letters is another one", "10 25 0 0 | a 1", "A", "k2", 5, "10 25 0 1 | A 0 k2:5:0 | a 1"},
		{"a site that is there: Ready stays", "10 25 5 0 | a 900", "a", "k1", 5, "10 25 5 1 | a 900 k1:5:0"},
		{"the same Prio: behind", "10 25 0 2 | a 0 k9:5:0 k8:5:1", "a", "k1", 5, "10 25 0 3 | a 0 k9:5:0 k8:5:1 k1:5:2"},
		{"a greater Prio: ahead", "10 25 0 2 | a 0 k9:5:0 k8:5:1", "a", "k1", 6, "10 25 0 3 | a 0 k1:6:2 k9:5:0 k8:5:1"},
		{"a lesser Prio: behind", "10 25 0 2 | a 0 k9:5:1 k8:5:0", "b", "k1", 4, ""},
		{"a lesser Prio: at the end", "10 25 0 2 | a 0 k9:5:0 k8:5:1", "a", "k1", 4, "10 25 0 3 | a 0 k9:5:0 k8:5:1 k1:4:2"},
		{"a Prio between", "10 25 0 3 | a 0 k9:7:2 k8:5:0 k7:3:1", "a", "k1", 4, "10 25 0 4 | a 0 k9:7:2 k8:5:0 k1:4:3 k7:3:1"},
		{"the same Prio as in the midst", "10 25 0 3 | a 0 k9:7:2 k8:5:0 k7:3:1", "a", "k1", 5, "10 25 0 4 | a 0 k9:7:2 k8:5:0 k1:5:3 k7:3:1"},
		{"the same Prio as at another site", "10 25 0 2 | a 0 k9:5:0 | b 0 k8:5:1", "a", "k1", 5, "10 25 0 3 | a 0 k9:5:0 k1:5:2 | b 0 k8:5:1"},
		{"beside leases", "10 25 0 2 | a 9 = k0:a:5:25 k2:a:5:25", "a", "k1", 5, "10 25 0 3 | a 9 k1:5:2 = k0:a:5:25 k2:a:5:25"},
		{"a key that is its site's name", "10 25 0 0", "a", "a", 5, "10 25 0 1 | a 0 a:5:0"},
		{"a key that is a site's name, not a key", "10 25 0 1 | a 0 k1:5:0", "b", "a", 5, "10 25 0 2 | a 0 k1:5:0 | b 0 a:5:1"},
		{"a key in large letters is another one", "10 25 0 1 | a 0 k1:5:0", "a", "K1", 5, "10 25 0 2 | a 0 k1:5:0 K1:5:1"},
		{"the last Seq", "10 25 0 999999 | a 0", "a", "k1", 5, "10 25 0 1000000 | a 0 k1:5:999999"},

		{"no Seq is left", "10 25 0 1000000 | a 0", "a", "k1", 5, ""},
		{"a site of no bytes", "10 25 0 0", "", "k1", 5, ""},
		{"a key of no bytes", "10 25 0 0", "a", "", 5, ""},
		{"a Prio below 0", "10 25 0 0", "a", "k1", -1, ""},
		{"a Prio one more", "10 25 0 0", "a", "k1", 1001, ""},
		{"the key waits there", "10 25 0 1 | a 0 k1:5:0", "a", "k1", 5, ""},
		{"the key waits there, another Prio", "10 25 0 1 | a 0 k1:5:0", "a", "k1", 6, ""},
		{"the key waits elsewhere", "10 25 0 1 | a 0 k1:5:0", "b", "k1", 5, ""},
		{"the key is leased", "10 25 0 1 | a 0 = k1:a:5:25", "a", "k1", 5, ""},
		{"the key is leased elsewhere", "10 25 0 1 | a 0 | b 0 = k1:a:5:25", "b", "k1", 5, ""},
		{"not right", "0 25 0 0", "a", "k1", 5, ""},
	} {
		s := queues(x.s)
		after, ok := impl.Enqueue(s, x.site, x.key, x.prio)
		want := x.s
		if x.after != "" {
			want = x.after
		}
		if ok != (x.after != "") || !sameSched(after, queues(want)) {
			t.Errorf("%s: Enqueue(%s, %q, %q, %d) = %s, %v; want %s", x.why, x.s, x.site, x.key, x.prio, schedText(after), ok, want)
		}
		checkEnqueue(t, s, x.site, x.key, x.prio)
		checkSched(t, s)
		checkSched(t, after)
	}
}

func TestHandOuts(t *testing.T) {
	const two = "10 25 7 9 | a 7 k3:9:2 k1:5:0 k4:5:3 | b 8 k5:5:4 | c 0"
	for _, x := range []struct {
		why, s    string
		site, k   int
		after, to string
	}{
		{"the first", two, 0, 0, "10 25 7 9 | a 17 k1:5:0 k4:5:3 | b 8 k5:5:4 | c 0 = k3:a:9:32", "k3"},
		{"one in the midst", two, 0, 1, "10 25 7 9 | a 17 k3:9:2 k4:5:3 | b 8 k5:5:4 | c 0 = k1:a:5:32", "k1"},
		{"the last", two, 0, 2, "10 25 7 9 | a 17 k3:9:2 k1:5:0 | b 8 k5:5:4 | c 0 = k4:a:5:32", "k4"},
		{"the only one", "10 25 0 1 | a 0 k1:5:0", 0, 0, "10 25 0 1 | a 10 = k1:a:5:25", "k1"},
		{"a lease in its order", "10 25 9 1 | a 0 | b 0 k5:5:0 = k2:a:1:9 k7:a:1:9", 1, 0, "10 25 9 1 | a 0 | b 19 = k2:a:1:9 k5:b:5:34 k7:a:1:9", "k5"},
		{"a lease ahead", "10 25 9 1 | a 0 | b 0 k1:5:0 = k2:a:1:9 k7:a:1:9", 1, 0, "10 25 9 1 | a 0 | b 19 = k1:b:5:34 k2:a:1:9 k7:a:1:9", "k1"},
		{"the least Delay and Span", "1 1 4 1 | a 4 k1:0:0", 0, 0, "1 1 4 1 | a 5 = k1:a:0:5", "k1"},
		{"the most Delay and Span, at the last tick", "1000 10000 100000000 1 | a 0 k1:1000:0", 0, 0, "1000 10000 100000000 1 | a 100001000 = k1:a:1000:100010000", "k1"},
		{"with no Seq left", "10 25 0 1000000 | a 0 k1:5:9", 0, 0, "10 25 0 1000000 | a 10 = k1:a:5:25", "k1"},

		{"one more than waits", two, 0, 3, "", ""},
		{"a place below 0 in the queue", two, 0, -1, "", ""},
		{"not ripe yet", two, 1, 0, "", ""},
		{"nothing waits", two, 2, 0, "", ""},
		{"one site more than there is", two, 3, 0, "", ""},
		{"a site below 0", two, -1, 0, "", ""},
		{"no site", "10 25 0 0", 0, 0, "", ""},
		{"not right", "10 0 7 9 | a 7 k3:9:2", 0, 0, "", ""},
	} {
		s := queues(x.s)
		after, to := impl.HandOut(s, x.site, x.k)
		want := x.s
		if x.to != "" {
			want = x.after
		}
		if to != x.to || !sameSched(after, queues(want)) {
			t.Errorf("%s: HandOut(%s, %d, %d) = %s, %q; want %s, %q", x.why, x.s, x.site, x.k, schedText(after), to, want, x.to)
		}
		checkHandOut(t, s, x.site, x.k)
		checkSched(t, s)
		checkSched(t, after)
	}
}

func TestEndedAndGivenBack(t *testing.T) {
	for _, x := range []struct{ why, s, key, ended, back string }{
		{"the only lease", "10 25 0 1 | a 10 = k1:a:5:25", "k1", "10 25 0 1 | a 10", "10 25 0 2 | a 10 k1:5:1"},
		{"the only lease, nothing came yet", "10 25 0 0 | a 10 = k1:a:5:25", "k1", "10 25 0 0 | a 10", "10 25 0 1 | a 10 k1:5:0"},
		{"the first of several", "10 25 0 3 | a 10 | b 0 = k1:a:5:25 k2:b:6:25 k3:a:7:25", "k1", "10 25 0 3 | a 10 | b 0 = k2:b:6:25 k3:a:7:25", "10 25 0 4 | a 10 k1:5:3 | b 0 = k2:b:6:25 k3:a:7:25"},
		{"one in the midst", "10 25 0 3 | a 10 | b 0 = k1:a:5:25 k2:b:6:25 k3:a:7:25", "k2", "10 25 0 3 | a 10 | b 0 = k1:a:5:25 k3:a:7:25", "10 25 0 4 | a 10 | b 0 k2:6:3 = k1:a:5:25 k3:a:7:25"},
		{"the last of several", "10 25 0 3 | a 10 | b 0 = k1:a:5:25 k2:b:6:25 k3:a:7:25", "k3", "10 25 0 3 | a 10 | b 0 = k1:a:5:25 k2:b:6:25", "10 25 0 4 | a 10 k3:7:3 | b 0 = k1:a:5:25 k2:b:6:25"},
		{"ahead, by its Prio", "10 25 0 3 | a 10 k8:5:1 k9:5:2 = k1:a:6:25", "k1", "10 25 0 3 | a 10 k8:5:1 k9:5:2", "10 25 0 4 | a 10 k1:6:3 k8:5:1 k9:5:2"},
		{"behind, by its Seq, which is a new one", "10 25 0 3 | a 10 k8:5:1 k9:5:2 = k1:a:5:25", "k1", "10 25 0 3 | a 10 k8:5:1 k9:5:2", "10 25 0 4 | a 10 k8:5:1 k9:5:2 k1:5:3"},
		{"between", "10 25 0 3 | a 10 k8:5:1 k9:3:2 = k1:a:4:25", "k1", "10 25 0 3 | a 10 k8:5:1 k9:3:2", "10 25 0 4 | a 10 k8:5:1 k1:4:3 k9:3:2"},
		{"the least Prio and the most", "10 25 0 3 | a 10 k8:5:1 = k1:a:1000:25 k2:a:0:25", "k2", "10 25 0 3 | a 10 k8:5:1 = k1:a:1000:25", "10 25 0 4 | a 10 k8:5:1 k2:0:3 = k1:a:1000:25"},
		{"a lease that is over already", "10 25 9 3 | a 10 = k1:a:5:9", "k1", "10 25 9 3 | a 10", "10 25 9 4 | a 10 k1:5:3"},
		{"a site that is ripe: Ready stays", "10 25 9 3 | a 2 = k1:a:5:30", "k1", "10 25 9 3 | a 2", "10 25 9 4 | a 2 k1:5:3"},
		{"the last Seq", "10 25 0 999999 | a 10 = k1:a:5:25 k2:a:5:25", "k2", "10 25 0 999999 | a 10 = k1:a:5:25", "10 25 0 1000000 | a 10 k2:5:999999 = k1:a:5:25"},
		{"no Seq is left: it may end all the same", "10 25 0 1000000 | a 10 = k1:a:5:25", "k1", "10 25 0 1000000 | a 10", ""},
		{"a key that waits", "10 25 0 3 | a 10 k8:5:1 = k1:a:5:25", "k8", "", ""},
		{"a key that is not there", "10 25 0 3 | a 10 k8:5:1 = k1:a:5:25", "k2", "", ""},
		{"a beginning of a key", "10 25 0 3 | a 10 k8:5:1 = k1:a:5:25", "k", "", ""},
		{"a site's name", "10 25 0 3 | a 10 k8:5:1 = k1:a:5:25", "a", "", ""},
		{"a key of no bytes", "10 25 0 3 | a 10 k8:5:1 = k1:a:5:25", "", "", ""},
		{"no lease", "10 25 0 3 | a 10 k8:5:1", "k8", "", ""},
		{"nothing", "10 25 0 0", "k1", "", ""},
		{"not right", "10 25 0 0 = k1:a:5:25", "k1", "", ""},
	} {
		s := queues(x.s)
		for _, y := range []struct {
			call  string
			ask   func(s impl.Sched, key string) (impl.Sched, bool)
			after string
		}{{"Ended", impl.Ended, x.ended}, {"GiveBack", impl.GiveBack, x.back}} {
			want := x.s
			if y.after != "" {
				want = y.after
			}
			after, ok := y.ask(s, x.key)
			if ok != (y.after != "") || !sameSched(after, queues(want)) {
				t.Errorf("%s: %s(%s, %q) = %s, %v; want %s", x.why, y.call, x.s, x.key, schedText(after), ok, want)
			}
			checkSched(t, after)
		}
		checkSched(t, s)
	}
}

func TestPassTimes(t *testing.T) {
	for _, x := range []struct {
		why, s string
		n      int
		after  string
	}{
		{"a tick", "10 25 0 0", 1, "10 25 1 0"},
		{"many ticks", "10 25 7 0", 10000, "10 25 10007 0"},
		{"what waits stays", "10 25 7 2 | a 90 k1:5:0 | b 0 k2:5:1", 9, "10 25 16 2 | a 90 k1:5:0 | b 0 k2:5:1"},
		{"a lease is over just now", "10 25 7 1 | a 17 = k1:a:5:9", 2, "10 25 9 2 | a 17 k1:5:1"},
		{"a lease is over a tick ago", "10 25 7 1 | a 17 = k1:a:5:8", 2, "10 25 9 2 | a 17 k1:5:1"},
		{"a lease is over a tick from now", "10 25 7 1 | a 17 = k1:a:5:10", 2, "10 25 9 1 | a 17 = k1:a:5:10"},
		{"a lease that was over ahead", "10 25 7 1 | a 17 = k1:a:5:0", 1, "10 25 8 2 | a 17 k1:5:1"},
		{"several are over, in order of their keys", "10 25 7 2 | a 17 | b 0 = k1:a:5:9 k2:b:5:8 k3:a:5:7", 2, "10 25 9 5 | a 17 k1:5:2 k3:5:4 | b 0 k2:5:3"},
		{"several are over, not in order of Until", "10 25 7 0 | a 17 = k1:a:5:9 k2:a:5:8 k3:a:5:7", 9, "10 25 16 3 | a 17 k1:5:0 k2:5:1 k3:5:2"},
		{"several are over, by their Prios", "10 25 7 0 | a 17 = k1:a:1:9 k2:a:3:9 k3:a:2:9", 9, "10 25 16 3 | a 17 k2:3:1 k3:2:2 k1:1:0"},
		{"some are over, some are not", "10 25 7 1 | a 17 k0:5:0 = k1:a:5:10 k2:a:5:9 k3:a:5:11 k4:a:6:9", 2, "10 25 9 3 | a 17 k4:6:2 k0:5:0 k2:5:1 = k1:a:5:10 k3:a:5:11"},
		{"to the last tick", "10 25 99999999 0 | a 0", 1, "10 25 100000000 0 | a 0"},
		{"to the last tick, by many", "10 25 99990000 0 | a 0 = k1:a:5:100000000", 10000, "10 25 100000000 1 | a 0 k1:5:0"},
		{"the last Seq", "10 25 7 999998 | a 17 = k1:a:5:9 k2:a:5:9", 2, "10 25 9 1000000 | a 17 k1:5:999998 k2:5:999999"},
		{"no Seq is left, and none is over", "10 25 7 1000000 | a 17 = k1:a:5:10 k2:a:5:10", 2, "10 25 9 1000000 | a 17 = k1:a:5:10 k2:a:5:10"},

		{"one Seq is left, and two are over: nothing passes", "10 25 7 999999 | a 17 = k1:a:5:9 k2:a:5:9", 2, ""},
		{"no Seq is left, and one is over", "10 25 7 1000000 | a 17 = k1:a:5:9", 2, ""},
		{"above the last tick", "10 25 99999999 0 | a 0 = k1:a:5:9", 2, ""},
		{"above the last tick, from there on", "10 25 100000000 0 | a 0", 1, ""},
		{"above the last tick, by many", "10 25 99990001 0 | a 0", 10000, ""},
		{"no tick", "10 25 7 0 | a 0 = k1:a:5:0", 0, ""},
		{"a tick back", "10 25 7 0 | a 0", -1, ""},
		{"one tick too many", "10 25 7 0 | a 0", 10001, ""},
		{"as many as turn round", "10 25 7 0 | a 0", math.MaxInt, ""},
		{"as many back", "10 25 7 0 | a 0", math.MinInt, ""},
		{"not right", "10 25 -7 0 | a 0", 9, ""},
	} {
		s, want := queues(x.s), x.s
		if x.after != "" {
			want = x.after
		}
		after := impl.PassTime(s, x.n)
		if !sameSched(after, queues(want)) {
			t.Errorf("%s: PassTime(%s, %d) = %s; want %s", x.why, x.s, x.n, schedText(after), want)
		}
		checkPass(t, s, x.n)
		checkSched(t, s)
		checkSched(t, after)
	}
}

func TestAnew(t *testing.T) {
	for _, x := range []struct{ why, s, after string }{
		{"nothing", "10 25 7 0", "10 25 7 0"},
		{"no lease", "10 25 7 3 | a 0 k1:5:0 | b 17", "10 25 7 3 | a 17 k1:5:0 | b 17"},
		{"one lease", "10 25 7 3 | a 0 = k1:a:5:32", "10 25 7 4 | a 17 k1:5:3"},
		{"several leases, in order of their keys", "10 25 7 3 | a 9 k0:5:0 | b 8 = k1:b:5:9 k2:a:5:8 k3:b:5:40", "10 25 7 6 | a 17 k0:5:0 k2:5:4 | b 17 k1:5:3 k3:5:5"},
		{"by their Prios", "10 25 7 3 | a 9 k0:5:0 = k1:a:4:9 k2:a:6:8 k3:a:5:40", "10 25 7 6 | a 17 k2:6:4 k0:5:0 k3:5:5 k1:4:3"},
		{"a site that was not to be asked for long", "10 25 7 3 | a 1000000000 k0:5:0 | b 18", "10 25 7 3 | a 17 k0:5:0 | b 17"},
		{"the most Delay at the last tick", "1000 25 100000000 3 | a 0 k0:5:0", "1000 25 100000000 3 | a 100001000 k0:5:0"},
		{"the last Seqs", "10 25 7 999998 | a 9 = k1:a:5:9 k2:a:5:8", "10 25 7 1000000 | a 17 k1:5:999998 k2:5:999999"},
		{"two Seqs are left for three: the last is as it was", "10 25 7 999998 | a 9 = k1:a:5:9 k2:a:5:8 k3:a:5:9", "10 25 7 1000000 | a 17 k1:5:999998 k2:5:999999 = k3:a:5:9"},
		{"no Seq is left: the leases are as they were", "10 25 7 1000000 | a 9 k0:5:0 | b 0 = k1:a:5:9 k2:b:5:8", "10 25 7 1000000 | a 17 k0:5:0 | b 17 = k1:a:5:9 k2:b:5:8"},
		{"not right", "10 25 7 0 | a 9 k0:5:0 = k1:a:5:9", "10 25 7 0 | a 9 k0:5:0 = k1:a:5:9"},
	} {
		s := queues(x.s)
		after := impl.Anew(s)
		if !sameSched(after, queues(x.after)) {
			t.Errorf("%s: Anew(%s) = %s; want %s", x.why, x.s, schedText(after), x.after)
		}
		checkSched(t, s)
		checkSched(t, after)
	}
}

// full has that many sites, of which the first have one each that waits, and
// the next ones one each that is leased.
func full(sites, waiting, leases int) impl.Sched {
	s := impl.Sched{Delay: 10, Span: 25, Now: 7, Seq: waiting}
	for i, name := range someKeys("s", sites) {
		site := siteAt(name, i%12)
		if i < waiting {
			site.Queue = append(site.Queue, waits("w"+name, i%7, i))
		}
		s.Sites = append(s.Sites, site)
	}
	for i, key := range someKeys("l", leases) {
		s.Leases = append(s.Leases, leased(key, s.Sites[(waiting+i)%sites].Name, i%5, i%30))
	}
	return s
}

// atOne has all that waits, and all leases, at one site.
func atOne(waiting, leases int) impl.Sched {
	s := impl.Sched{Delay: 10, Span: 25, Now: 7, Seq: waiting, Sites: []impl.Site{siteAt("a", 0)}}
	for i, key := range someKeys("w", waiting) {
		s.Sites[0].Queue = append(s.Sites[0].Queue, waits(key, 1000-i/3, i))
	}
	for i, key := range someKeys("l", leases) {
		s.Leases = append(s.Leases, leased(key, "a", i%5, i%30))
	}
	return s
}

func TestFullScheds(t *testing.T) {
	for _, x := range []struct {
		why          string
		s            impl.Sched
		ok           bool
		old, newSite bool
	}{
		{"199 wait at one site", atOne(199, 0), true, true, true},
		{"200 wait at one site", atOne(200, 0), true, false, false},
		{"201 wait at one site", atOne(201, 0), false, false, false},
		{"199 leases of one site", atOne(0, 199), true, true, true},
		{"200 leases of one site", atOne(0, 200), true, false, false},
		{"201 leases of one site", atOne(0, 201), false, false, false},
		{"199 together", atOne(100, 99), true, true, true},
		{"200 together", atOne(100, 100), true, false, false},
		{"201 together", atOne(100, 101), false, false, false},
		{"201 together, 200 of them wait", atOne(200, 1), false, false, false},
		{"201 together, 200 of them leased", atOne(1, 200), false, false, false},
		{"199 sites", full(199, 3, 2), true, true, true},
		{"200 sites", full(200, 3, 2), true, true, false},
		{"200 sites, with nothing", full(200, 0, 0), true, true, false},
		{"201 sites", full(201, 3, 2), false, false, false},
		{"201 sites, with nothing", full(201, 0, 0), false, false, false},
		{"200 sites, 200 wait", full(200, 200, 0), true, false, false},
		{"200 sites, 200 leases", full(200, 0, 200), true, false, false},
		{"200 sites, 200 together", full(200, 120, 80), true, false, false},
		{"200 sites, 201 together", full(200, 121, 80), false, false, false},
		{"200 sites, 199 together", full(200, 119, 80), true, true, false},
	} {
		if got := impl.SchedOk(x.s); got != x.ok {
			t.Errorf("%s: SchedOk = %v", x.why, got)
		}
		if _, ok := impl.Enqueue(x.s, x.s.Sites[0].Name, "new", 5); ok != x.old {
			t.Errorf("%s: Enqueue at a site that is there: %v", x.why, ok)
		}
		if _, ok := impl.Enqueue(x.s, "zz", "new", 5); ok != x.newSite {
			t.Errorf("%s: Enqueue at a new site: %v", x.why, ok)
		}
		s := x.s
		for _, site := range []string{"", "a", "s000", "s199", "s200", "zz", "0"} {
			checkEnqueue(t, s, site, "new", 5)
			checkEnqueue(t, s, site, "w000", 5)
			checkEnqueue(t, s, site, "ws000", 5)
		}
		for _, site := range []int{-1, 0, 1, 50, 198, 199, 200, 201} {
			for _, k := range []int{-1, 0, 1, 99, 198, 199, 200} {
				checkHandOut(t, s, site, k)
			}
		}
		for _, key := range append(someKeys("l", 4), "l079", "l099", "l198", "l199", "l200", "w000", "ws000") {
			checkEnded(t, s, key)
			checkGiveBack(t, s, key)
		}
		for _, n := range []int{1, 2, 9, 30, 10000} {
			checkPass(t, s, n)
		}
		checkAnew(t, s)
	}
}

// One after the other until it is full, and out again: nothing is lost.
func TestFilledAndEmptied(t *testing.T) {
	for _, many := range []int{1, 3, mostWaiting} {
		s := impl.SchedNew(1, 10000)
		for i, key := range someKeys("k", mostWaiting+2) {
			after, ok := impl.Enqueue(s, fmt.Sprintf("s%03d", i%many), key, i%4)
			if ok != (i < mostWaiting) {
				t.Fatalf("%d sites: %q is put: %v", many, key, ok)
			}
			s = after
		}
		out := map[string]int{}
		for len(out) < mostWaiting {
			for _, site := range impl.Ripe(s) {
				after, key := impl.HandOut(s, site, 0)
				s = after
				out[key]++
			}
			s = impl.PassTime(s, 1)
		}
		if len(s.Leases) != mostWaiting || s.Now != (mostWaiting+many-1)/many || !impl.SchedOk(s) || out[""] != 0 {
			t.Errorf("%d sites: %d leases, tick %d", many, len(s.Leases), s.Now)
		}
		if _, ok := impl.Enqueue(s, "s000", "new", 5); ok {
			t.Errorf("%d sites: all are leased, and there is room", many)
		}
		back := impl.Anew(s)
		if len(back.Leases) != 0 || len(whereabouts(back)) != mostWaiting || back.Seq != 2*mostWaiting || len(impl.Ripe(back)) != 0 {
			t.Errorf("%d sites: anew it is %s", many, schedText(back))
		}
		for key := range out {
			s, _ = impl.Ended(s, key)
		}
		if len(s.Leases) != 0 || len(s.Sites) != many || len(whereabouts(s)) != 0 {
			t.Errorf("%d sites: behind all it is %s", many, schedText(s))
		}
	}
}

// Of those at one site the one that is handed out is the one with the greatest
// Prio, of several the one that came first.
func TestHandedOutInTurn(t *testing.T) {
	turn := rand.New(rand.NewSource(181))
	for range 100 {
		s := impl.SchedNew(1, 10000)
		prios := map[string]int{}
		for i, key := range someKeys("k", 1+turn.Intn(30)) {
			prios[key] = turn.Intn(4) * 333
			s = checkEnqueue(t, s, "a", key, prios[key])
			if turn.Intn(3) == 0 {
				s = checkEnqueue(t, s, "b", fmt.Sprint("other", i), 5)
			}
		}
		ahead, aheadPrio := "", 1000
		for range prios {
			after, key := checkHandOut(t, s, 0, 0)
			if prios[key] > aheadPrio || prios[key] == aheadPrio && key < ahead {
				t.Fatalf("%q of Prio %d is handed out behind %q of %d", key, prios[key], ahead, aheadPrio)
			}
			ahead, aheadPrio = key, prios[key]
			s = checkPass(t, after, 1)
		}
	}
}

// someSched is right. Its numbers lie at what they may be, or anywhere.
func someSched(turn *rand.Rand) impl.Sched {
	pick := func(of ...int) int { return of[turn.Intn(len(of))] }
	s := impl.Sched{
		Delay: pick(1, 2, 10, 1000, 1+turn.Intn(1000)),
		Span:  pick(1, 2, 25, 10000, 1+turn.Intn(10000)),
		Now:   pick(0, 1, 7, turn.Intn(50), lastTick, lastTick-1, lastTick-10000, turn.Intn(lastTick)),
	}
	f := flatten(s)
	for range turn.Intn(6) {
		ready := pick(0, s.Now, s.Now+1, max(0, s.Now-1), s.Now+s.Delay, lastReady, turn.Intn(lastReady))
		f.ready[pickText(turn, "a", "b", "c", "A", "aa", "é", "a.com", "b.a.com")] = ready
	}
	names := slices.Sorted(maps.Keys(f.ready))
	if len(names) == 0 {
		s.Seq = pick(0, 1, lastSeq, lastSeq-1, turn.Intn(lastSeq))
		return s
	}
	many := turn.Intn(12)
	seqs := turn.Perm(many + turn.Intn(10))
	f.numbers.Seq = pick(len(seqs), len(seqs)+1, lastSeq, lastSeq-1, lastSeq-2, lastSeq-turn.Intn(9), len(seqs)+turn.Intn(1000))
	for i, key := range someKeys("k", many) {
		site, prio := names[turn.Intn(len(names))], pick(0, 5, 5, 6, 1000, turn.Intn(1001))
		if turn.Intn(2) == 0 {
			f.waiting[key] = placed{site, prio, seqs[i]}
		} else {
			until := pick(0, s.Now, s.Now+1, s.Now+2, max(0, s.Now-1), s.Now+s.Span, s.Now+9999, s.Now+10000, s.Now+10001, lastReady, turn.Intn(lastReady))
			f.leases[key] = leased(key, site, prio, until)
		}
	}
	return f.sched()
}

func pickText(turn *rand.Rand, of ...string) string { return of[turn.Intn(len(of))] }

func TestManyScheds(t *testing.T) {
	turn := rand.New(rand.NewSource(182))
	for range 1500 {
		s := someSched(turn)
		if !wantSchedOk(s) {
			t.Fatal("not right", schedText(s))
		}
		checkSched(t, s)
	}
}

// One or two things are turned wrong in a right one, or nothing is.
func TestManySchedsWithAFault(t *testing.T) {
	turn := rand.New(rand.NewSource(183))
	numbers := []int{-1, 0, 1, 5, 6, 1000, 1001, 10000, 10001, lastTick, lastTick + 1, lastSeq, lastSeq + 1, lastReady, lastReady + 1, math.MaxInt, math.MinInt}
	texts := []string{"", "a", "b", "zz", "k000", "k001", "k002", "A"}
	for range 4000 {
		s := someSched(turn)
		for range 1 + turn.Intn(2) {
			spoil(turn, &s, numbers[turn.Intn(len(numbers))], pickText(turn, texts...))
		}
		if got := impl.SchedOk(s); got != wantSchedOk(s) {
			t.Fatalf("SchedOk(%s) = %v", schedText(s), got)
		}
		checkEnqueue(t, s, pickText(turn, texts...), pickText(turn, texts...), turn.Intn(9))
		checkHandOut(t, s, turn.Intn(4)-1, turn.Intn(4)-1)
		checkEnded(t, s, pickText(turn, texts...))
		checkGiveBack(t, s, pickText(turn, texts...))
		checkPass(t, s, turn.Intn(20))
		checkAnew(t, s)
	}
}

// spoil writes that number or text into one place, or turns two that stand
// side by side.
func spoil(turn *rand.Rand, s *impl.Sched, n int, text string) {
	number := []*int{&s.Delay, &s.Span, &s.Now, &s.Seq}
	words := []*string{&text}
	swaps := []func(){func() {}}
	for i := range s.Sites {
		site := &s.Sites[i]
		number, words = append(number, &site.Ready), append(words, &site.Name)
		if i > 0 {
			swaps = append(swaps, func() { s.Sites[i], s.Sites[i-1] = s.Sites[i-1], s.Sites[i] })
		}
		for k := range site.Queue {
			w := &site.Queue[k]
			number, words = append(number, &w.Prio, &w.Seq), append(words, &w.Key)
			if k > 0 {
				swaps = append(swaps, func() { site.Queue[k], site.Queue[k-1] = site.Queue[k-1], site.Queue[k] })
			}
		}
	}
	for i := range s.Leases {
		l := &s.Leases[i]
		number, words = append(number, &l.Prio, &l.Until), append(words, &l.Key, &l.Site)
		if i > 0 {
			swaps = append(swaps, func() { s.Leases[i], s.Leases[i-1] = s.Leases[i-1], s.Leases[i] })
		}
	}
	switch turn.Intn(4) {
	case 0:
		*number[turn.Intn(len(number))] = n
	case 1:
		*words[turn.Intn(len(words))] = text
	case 2:
		swaps[turn.Intn(len(swaps))]()
	}
}

// ledger is what a crawler knows: how each key stands, and when each site was
// asked, or there as it began anew, last.
type ledger struct {
	state map[string]string
	asked map[string]int
}

// checkLedger: what was put in and has not ended is there, once, as it is known.
func checkLedger(t *testing.T, s impl.Sched, known map[string]string) {
	t.Helper()
	is := map[string]string{}
	for _, site := range s.Sites {
		for _, w := range site.Queue {
			is[w.Key] += "waits"
		}
	}
	for _, l := range s.Leases {
		is[l.Key] += "leased"
	}
	if !maps.Equal(is, known) {
		t.Fatalf("%s has %v; want %v", schedText(s), is, known)
	}
}

func (l *ledger) notSoon(t *testing.T, s impl.Sched) {
	t.Helper()
	for _, place := range impl.Ripe(s) {
		site := s.Sites[place].Name
		if at, asked := l.asked[site]; asked && s.Now-at < s.Delay {
			t.Fatalf("%q is ripe at %d: %s", site, s.Now, schedText(s))
		}
	}
}

func (l *ledger) pass(t *testing.T, s impl.Sched, n int) impl.Sched {
	for _, lease := range s.Leases {
		if lease.Until <= s.Now+n {
			l.state[lease.Key] = "waits"
		}
	}
	return checkPass(t, s, n)
}

func (l *ledger) step(t *testing.T, turn *rand.Rand, s impl.Sched, key string) impl.Sched {
	t.Helper()
	switch turn.Intn(14) {
	case 0, 1, 2, 3:
		if l.state[key] == "" && len(l.state) < mostWaiting {
			l.state[key] = "waits"
		}
		return checkEnqueue(t, s, pickText(turn, "a", "b", "c", "d"), key, turn.Intn(4))
	case 4, 5, 6:
		site := turn.Intn(5) - 1
		name, ripe := "", slices.Contains(impl.Ripe(s), site)
		after, out := checkHandOut(t, s, site, turn.Intn(3))
		if out != "" {
			name = s.Sites[site].Name
			if !ripe || l.state[out] != "waits" {
				t.Fatalf("%q is handed out of %s", out, schedText(s))
			}
			l.state[out], l.asked[name] = "leased", s.Now
		}
		return after
	case 7, 8:
		if l.state[key] == "leased" {
			delete(l.state, key)
		}
		return checkEnded(t, s, key)
	case 9:
		if l.state[key] == "leased" {
			l.state[key] = "waits"
		}
		return checkGiveBack(t, s, key)
	case 10, 11, 12:
		return l.pass(t, s, 1+turn.Intn(1+turn.Intn(30)))
	}
	if turn.Intn(8) > 0 {
		return s
	}
	for key := range l.state {
		l.state[key] = "waits"
	}
	for _, name := range namesIn(s) {
		l.asked[name] = s.Now
	}
	return checkAnew(t, s)
}

// All of these one behind the other: nothing is lost or there twice, and no
// site is ripe until Delay has passed.
func TestManySteps(t *testing.T) {
	turn := rand.New(rand.NewSource(184))
	for range 60 {
		s := impl.SchedNew(1+turn.Intn(12), 1+turn.Intn(40))
		known := ledger{state: map[string]string{}, asked: map[string]int{}}
		keys := someKeys("k", 1+turn.Intn(25))
		for range 300 {
			s = known.step(t, turn, s, keys[turn.Intn(len(keys))])
			checkLedger(t, s, known.state)
			known.notSoon(t, s)
		}
	}
}

// Between two of one site that are handed out Delay passes, whatever is done
// between them: ticks one by one, ended, given back, put in, over.
func TestNoTwoWithinDelay(t *testing.T) {
	for _, delay := range []int{1, 2, 3, 10, 1000} {
		for _, span := range []int{1, 2, 7, 10000} {
			s := impl.SchedNew(delay, span)
			s = checkEnqueue(t, s, "a", "k1", 5)
			s = checkEnqueue(t, s, "a", "k2", 5)
			s = checkEnqueue(t, s, "b", "k3", 5)
			s, first := impl.HandOut(s, 0, 0)
			s, _ = impl.GiveBack(s, first)
			s, _ = impl.Enqueue(s, "a", "k4", 9)
			for tick := range delay {
				if slices.Contains(impl.Ripe(s), 0) || !slices.Contains(impl.Ripe(s), 1) {
					t.Fatalf("Delay %d, tick %d: %s", delay, tick, schedText(s))
				}
				if after, key := impl.HandOut(s, 0, 0); key != "" || !sameSched(after, s) {
					t.Fatalf("Delay %d, tick %d: %q is handed out", delay, tick, key)
				}
				s = impl.PassTime(s, 1)
			}
			if after, key := impl.HandOut(s, 0, 0); key != "k4" || after.Sites[0].Ready != 2*delay {
				t.Fatalf("Delay %d: %q is handed out of %s", delay, key, schedText(s))
			}
		}
	}
}

// roomySched has more behind each list's length, which a call must neither
// read nor write; whole is all of it.
func roomySched(s impl.Sched) (roomy, whole impl.Sched) {
	whole, roomy = s, s
	whole.Sites, roomy.Sites = nil, nil
	for _, site := range s.Sites {
		many := len(site.Queue)
		site.Queue = append(slices.Clone(site.Queue), waits("behind", 5, 1), waits("k1", 9, 0), waits("", -1, -1))
		whole.Sites = append(whole.Sites, site)
		site.Queue = site.Queue[:many]
		roomy.Sites = append(roomy.Sites, site)
	}
	roomy.Sites = append(roomy.Sites, siteAt("behind", 0, waits("behind", 5, 0)), siteAt("", -1))[:len(s.Sites)]
	whole.Leases = append(slices.Clone(s.Leases), leased("behind", "a", 5, 1), leased("", "", -1, -1))
	roomy.Leases = whole.Leases[:len(s.Leases)]
	return roomy, whole
}

func scribbleSched(s impl.Sched) {
	for i := range s.Sites {
		queue := s.Sites[i].Queue
		queue = queue[:cap(queue)]
		for k := range queue {
			queue[k] = waits("written", -1, -1)
		}
	}
	sites, leases := s.Sites[:cap(s.Sites)], s.Leases[:cap(s.Leases)]
	for i := range sites {
		sites[i] = siteAt("written", -1)
	}
	for i := range leases {
		leases[i] = leased("written", "written", -1, -1)
	}
}

// schedCall is one of all calls that answer a Sched of one.
type schedCall struct {
	why string
	ask func(s impl.Sched) impl.Sched
}

func schedCalls() []schedCall {
	l := []schedCall{{"Anew", impl.Anew}}
	for _, key := range []string{"k0", "k1", "k2", "k9", "new", ""} {
		l = append(l,
			schedCall{"Ended " + key, func(s impl.Sched) impl.Sched { after, _ := impl.Ended(s, key); return after }},
			schedCall{"GiveBack " + key, func(s impl.Sched) impl.Sched { after, _ := impl.GiveBack(s, key); return after }},
			schedCall{"Enqueue a " + key, func(s impl.Sched) impl.Sched { after, _ := impl.Enqueue(s, "a", key, 5); return after }},
			schedCall{"Enqueue new " + key, func(s impl.Sched) impl.Sched { after, _ := impl.Enqueue(s, "new", key, 5); return after }})
	}
	for n := range 4 {
		l = append(l,
			schedCall{fmt.Sprint("PassTime ", n), func(s impl.Sched) impl.Sched { return impl.PassTime(s, n) }},
			schedCall{fmt.Sprint("HandOut ", n, 0), func(s impl.Sched) impl.Sched { after, _ := impl.HandOut(s, n, 0); return after }},
			schedCall{fmt.Sprint("HandOut ", n, 1), func(s impl.Sched) impl.Sched { after, _ := impl.HandOut(s, n, 1); return after }})
	}
	return l
}

func schedsToAsk() []impl.Sched {
	l := []impl.Sched{}
	for _, x := range rightScheds {
		l = append(l, queues(x.s))
	}
	for _, x := range wrongScheds {
		l = append(l, x.s)
	}
	turn := rand.New(rand.NewSource(185))
	for range 30 {
		l = append(l, someSched(turn))
	}
	return l
}

func TestSchedsLeaveTheirArgument(t *testing.T) {
	for _, s := range schedsToAsk() {
		roomy, whole := roomySched(s)
		roomyBefore, wholeBefore := roomySched(s)
		left := func(why string) {
			t.Helper()
			if !sameSched(roomy, s) || !reflect.DeepEqual(whole, wholeBefore) || !reflect.DeepEqual(roomy.Sites[:cap(roomy.Sites)], roomyBefore.Sites[:cap(roomyBefore.Sites)]) {
				t.Fatalf("%s: written into %s, or behind it", why, schedText(s))
			}
		}
		if impl.SchedOk(roomy) != wantSchedOk(s) || !slices.Equal(impl.Ripe(roomy), wantRipe(s)) {
			t.Errorf("read behind %s", schedText(s))
		}
		left("SchedOk, Ripe")
		for _, call := range schedCalls() {
			after, plain := call.ask(roomy), call.ask(copyOfSched(s))
			if !sameSched(after, plain) {
				t.Errorf("%s: of %s, with room behind, comes %s; want %s", call.why, schedText(s), schedText(after), schedText(plain))
			}
			left(call.why)
			scribbleSched(after)
			left(call.why + ", written into")
		}
	}
}

// ownTexts gives each text memory of its own, so that no two lie in one.
func ownTexts(s impl.Sched) impl.Sched {
	s = copyOfSched(s)
	for i := range s.Sites {
		s.Sites[i].Name = strings.Clone(s.Sites[i].Name)
		for k := range s.Sites[i].Queue {
			s.Sites[i].Queue[k].Key = strings.Clone(s.Sites[i].Queue[k].Key)
		}
	}
	for i := range s.Leases {
		s.Leases[i].Key, s.Leases[i].Site = strings.Clone(s.Leases[i].Key), strings.Clone(s.Leases[i].Site)
	}
	return s
}

func textsIn(s impl.Sched) []string {
	l := []string{}
	for _, site := range s.Sites {
		l = append(l, site.Name)
		for _, w := range site.Queue {
			l = append(l, w.Key)
		}
	}
	for _, lease := range s.Leases {
		l = append(l, lease.Key, lease.Site)
	}
	return l
}

func sharesText(l, in []string) bool {
	return slices.ContainsFunc(l, func(s string) bool {
		return s != "" && slices.ContainsFunc(in, func(of string) bool { return lies(s, of) })
	})
}

func sharesLists(a, b impl.Sched) bool {
	for _, site := range a.Sites {
		if overlap(site.Queue, b.Sites) || overlap(site.Queue, b.Leases) {
			return true
		}
		for _, other := range b.Sites {
			if overlap(site.Queue, other.Queue) || overlap(a.Sites, other.Queue) || overlap(a.Leases, other.Queue) {
				return true
			}
		}
	}
	return overlap(a.Sites, b.Sites) || overlap(a.Sites, b.Leases) || overlap(a.Leases, b.Sites) || overlap(a.Leases, b.Leases)
}

func sharesWithin(s impl.Sched) bool {
	for i, site := range s.Sites {
		for _, other := range s.Sites[:i] {
			if overlap(site.Queue, other.Queue) {
				return true
			}
		}
		if overlap(site.Queue, s.Sites) || overlap(site.Queue, s.Leases) {
			return true
		}
	}
	return overlap(s.Sites, s.Leases)
}

func TestSchedsAreNewMemory(t *testing.T) {
	for _, s := range schedsToAsk() {
		s = ownTexts(s)
		for _, call := range schedCalls() {
			after, again := call.ask(s), call.ask(s)
			if sharesLists(after, s) || sharesText(textsIn(after), textsIn(s)) {
				t.Errorf("%s: %s shares memory with %s", call.why, schedText(after), schedText(s))
			}
			if sharesLists(after, again) || sharesText(textsIn(after), textsIn(again)) {
				t.Errorf("%s: %s shares memory with another answer", call.why, schedText(after))
			}
			if sharesWithin(after) {
				t.Errorf("%s: two lists of %s share memory", call.why, schedText(after))
			}
		}
		for place := range s.Sites {
			if after, key := impl.HandOut(s, place, 0); sharesText([]string{key}, append(textsIn(s), textsIn(after)...)) {
				t.Errorf("%q lies in the memory of %s", key, schedText(s))
			}
		}
		if overlap(impl.Ripe(s), impl.Ripe(s)) {
			t.Errorf("what is ripe of %s shares memory with another answer", schedText(s))
		}
		site, key := strings.Clone("new"), strings.Clone("newkey")
		after, _ := impl.Enqueue(s, site, key, 5)
		if sharesText(textsIn(after), []string{site, key}) {
			t.Errorf("what is put into %s lies in the argument's memory", schedText(s))
		}
	}
}

// Two calls on one Sched make two answers that know nothing of each other.
func TestTwoOfOneSched(t *testing.T) {
	for _, s := range schedsToAsk() {
		for _, one := range schedCalls() {
			first := one.ask(s)
			kept := copyOfSched(first)
			for _, other := range schedCalls() {
				scribbleSched(other.ask(s))
				scribbleSched(other.ask(first))
			}
			if !sameSched(first, kept) {
				t.Fatalf("%s: of %s came %s, which has become %s", one.why, schedText(s), schedText(kept), schedText(first))
			}
		}
	}
}

func TestSchedsKeepNothing(t *testing.T) {
	want, _ := impl.Enqueue(queues(some), "a", "new", 5)
	for _, x := range wrongScheds {
		for _, call := range schedCalls() {
			call.ask(x.s)
		}
		if after, ok := impl.Enqueue(queues(some), "a", "new", 5); !ok || !sameSched(after, want) {
			t.Fatalf("behind %s: %s", x.why, schedText(after))
		}
		if s := impl.SchedNew(10, 25); !sameSched(s, queues("10 25 0 0")) {
			t.Fatalf("behind %s: a new one is %s", x.why, schedText(s))
		}
	}
}

func TestSchedsOfVeryMany(t *testing.T) {
	const many = 300000
	long := impl.Sched{Delay: 10, Span: 25, Seq: 1, Sites: []impl.Site{siteAt("a", 0)}}
	wide, leases := long, long
	wide.Sites = make([]impl.Site, many)
	for i := range many {
		long.Sites[0].Queue = append(long.Sites[0].Queue, waits("k", 5, 0))
		wide.Sites[i] = siteAt("a", 0, waits("k", 5, 0))
		leases.Leases = append(leases.Leases, leased("k", "a", 5, 0))
	}
	leases.Sites = []impl.Site{siteAt("a", 0, waits("k", 5, 0))}
	for _, x := range []struct {
		why string
		s   impl.Sched
	}{{"a long queue", long}, {"very many sites", wide}, {"very many leases", leases}} {
		soon(t, x.why, func() bool {
			for _, call := range schedCalls() {
				if !sameSched(call.ask(x.s), x.s) {
					return false
				}
			}
			return !impl.SchedOk(x.s) && len(impl.Ripe(x.s)) == len(x.s.Sites)
		}, true)
	}
	soon(t, "keys that differ at their end", func() bool {
		s, ahead := impl.SchedNew(1, 1), strings.Repeat("k", 100000)
		for i := range mostWaiting {
			after, ok := impl.Enqueue(s, ahead+"s", ahead+strconv.Itoa(i), i)
			if !ok {
				return false
			}
			s = after
		}
		return impl.SchedOk(s) && s.Sites[0].Queue[0].Key == ahead+"199"
	}, true)
}
