package tests

import (
	"fmt"
	"maps"
	"math"
	"math/rand"
	"slices"
	"strings"
	"testing"

	"loop.example/g00191/impl"
)

type marks = []impl.Mark

const (
	mostSeen    = 400
	longestKey  = 2000
	seenInMem   = 8
	seenRuns    = 3
	seenRunsAll = 6
)

func mark(key string, state int) impl.Mark { return impl.Mark{Key: key, State: state} }

// marksOf reads a Mark a word, its Key and a digit for its State: "a1 b3".
func marksOf(told string) marks {
	l := marks{}
	for _, word := range strings.Fields(told) {
		last := len(word) - 1
		l = append(l, mark(word[:last], int(word[last]-'0')))
	}
	return l
}

// layers reads a Seen, Mem ahead and each run behind a bar: "a1 | a2 b1 | c3".
func layers(told string) impl.Seen {
	parts := strings.Split(told, "|")
	s := impl.Seen{Mem: marksOf(parts[0])}
	for _, part := range parts[1:] {
		s.Runs = append(s.Runs, marksOf(part))
	}
	return s
}

func seenText(s impl.Seen) string {
	text := marksText(s.Mem)
	for _, run := range s.Runs {
		text += "| " + marksText(run)
	}
	return strings.TrimSpace(text)
}

func marksText(l marks) string {
	text := ""
	for _, m := range l {
		key := m.Key
		if len(key) > 20 {
			key = fmt.Sprintf("%s..(%d)", key[:5], len(key))
		}
		text += fmt.Sprint(key, m.State) + " "
	}
	return text
}

// someKeys are that many keys, ascending, each with that text ahead.
func someKeys(ahead string, many int) []string {
	l := []string{}
	for i := range many {
		l = append(l, fmt.Sprintf("%s%03d", ahead, i))
	}
	return l
}

// stand are that many Marks, ascending, of that State.
func stand(ahead string, many, state int) marks {
	l := marks{}
	for _, key := range someKeys(ahead, many) {
		l = append(l, mark(key, state))
	}
	return l
}

func seenLayers(mem marks, runs ...marks) impl.Seen { return impl.Seen{Mem: mem, Runs: runs} }

func copyOf(s impl.Seen) impl.Seen {
	c := impl.Seen{Mem: slices.Clone(s.Mem)}
	for _, run := range s.Runs {
		c.Runs = append(c.Runs, slices.Clone(run))
	}
	return c
}

func sameSeen(a, b impl.Seen) bool {
	return slices.Equal(a.Mem, b.Mem) && slices.EqualFunc(a.Runs, b.Runs, slices.Equal[marks])
}

func wantMarkOk(key string, state int) bool {
	return 0 < len(key) && len(key) < longestKey+1 && (state == 1 || state == 2 || state == 3)
}

func wantSeenOk(s impl.Seen) bool {
	many, right := len(s.Mem), true
	for _, run := range s.Runs {
		many += len(run)
		right = right && len(run) != 0
	}
	for _, l := range append([]marks{s.Mem}, s.Runs...) {
		ahead := ""
		for _, m := range l {
			right = right && ahead < m.Key && wantMarkOk(m.Key, m.State)
			ahead = m.Key
		}
	}
	return right && many <= mostSeen && len(s.Mem) <= seenInMem && len(s.Runs) <= seenRunsAll
}

// wantCounting writes the layers over each other, the oldest first, and each
// from its end on, so that what counts is written last.
func wantCounting(newestFirst ...marks) map[string]int {
	states := map[string]int{}
	for _, l := range slices.Backward(newestFirst) {
		for _, m := range slices.Backward(l) {
			states[m.Key] = m.State
		}
	}
	return states
}

func wantStates(s impl.Seen) map[string]int {
	return wantCounting(append([]marks{s.Mem}, s.Runs...)...)
}

func wantAscending(states map[string]int) marks {
	l := marks{}
	for _, key := range slices.Sorted(maps.Keys(states)) {
		l = append(l, mark(key, states[key]))
	}
	return l
}

func wantPut(s impl.Seen, key string, state int) (impl.Seen, bool) {
	if !wantSeenOk(s) || !wantMarkOk(key, state) {
		return s, false
	}
	mem := wantAscending(wantCounting(marks{mark(key, state)}, s.Mem))
	all := []marks{}
	if len(mem) > 7 {
		all, mem = append(all, mem), nil
	}
	all = append(all, s.Runs...)
	if end := len(all); end > seenRuns {
		all = append(all[:end-2:end-2], wantAscending(wantCounting(all[end-2], all[end-1])))
	}
	put := impl.Seen{Mem: mem, Runs: all}
	if !wantSeenOk(put) {
		return s, false
	}
	return put, true
}

func wantPress(s impl.Seen) impl.Seen {
	all := wantAscending(wantStates(s))
	switch {
	case !wantSeenOk(s):
		return s
	case len(all) == 0:
		return impl.Seen{}
	}
	return seenLayers(nil, all)
}

// checkFound asks for every key that is there, and for some that may not be.
func checkFound(t *testing.T, s impl.Seen, states map[string]int) {
	t.Helper()
	for key, state := range states {
		if got := impl.SeenGet(s, key); got != state {
			t.Fatalf("SeenGet(%s, %q) = %d; want %d", seenText(s), key, got, state)
		}
	}
	for _, key := range []string{"", "a", "0", "zz", "\x00", strings.Repeat("k", longestKey)} {
		if got := impl.SeenGet(s, key); got != states[key] {
			t.Fatalf("SeenGet(%s, %q) = %d; want %d", seenText(s), key, got, states[key])
		}
	}
	many := map[int]int{}
	for _, state := range states {
		many[state]++
	}
	for state := -1; state <= 4; state++ {
		if got := impl.SeenCount(s, state); got != many[state] {
			t.Fatalf("SeenCount(%s, %d) = %d; want %d", seenText(s), state, got, many[state])
		}
	}
}

// checkSeen holds all that is asked of one Seen against its own telling.
func checkSeen(t *testing.T, s impl.Seen) {
	t.Helper()
	if got := impl.SeenOk(s); got != wantSeenOk(s) {
		t.Fatalf("SeenOk(%s) = %v", seenText(s), got)
	}
	states := wantStates(s)
	if got, want := impl.SeenAll(s), wantAscending(states); !slices.Equal(got, want) {
		t.Fatalf("SeenAll(%s) = %s; want %s", seenText(s), marksText(got), marksText(want))
	}
	checkFound(t, s, states)
	pressed := impl.SeenPress(s)
	if want := wantPress(s); !sameSeen(pressed, want) {
		t.Fatalf("SeenPress(%s) = %s; want %s", seenText(s), seenText(pressed), seenText(want))
	}
	if wantSeenOk(s) {
		checkPressed(t, s, pressed, states)
	}
}

// checkPressed: pressed the same is there, and nothing is left to press.
func checkPressed(t *testing.T, s, pressed impl.Seen, states map[string]int) {
	t.Helper()
	if !impl.SeenOk(pressed) || !slices.Equal(impl.SeenAll(pressed), impl.SeenAll(s)) {
		t.Fatalf("pressed %s is %s", seenText(s), seenText(pressed))
	}
	checkFound(t, pressed, states)
	if again := impl.SeenPress(pressed); !sameSeen(again, pressed) {
		t.Fatalf("SeenPress(%s) = %s", seenText(pressed), seenText(again))
	}
}

// checkPut holds one put against its own telling, and against the promise: what
// is put is there, every other key is found as it was.
func checkPut(t *testing.T, s impl.Seen, key string, state int) impl.Seen {
	t.Helper()
	before := copyOf(s)
	put, ok := impl.SeenPut(s, key, state)
	want, wantOk := wantPut(s, key, state)
	if ok != wantOk || !sameSeen(put, want) {
		t.Fatalf("SeenPut(%s, %q, %d) = %s, %v; want %s, %v", seenText(s), key, state, seenText(put), ok, seenText(want), wantOk)
	}
	if !sameSeen(s, before) {
		t.Fatalf("SeenPut(%s, %q, %d) made it %s", seenText(before), key, state, seenText(s))
	}
	states := wantStates(before)
	if ok {
		states[key] = state
		if !impl.SeenOk(put) {
			t.Fatalf("SeenPut(%s, %q, %d) = %s is not right", seenText(s), key, state, seenText(put))
		}
	}
	checkFound(t, put, states)
	if all := impl.SeenAll(put); !slices.Equal(all, wantAscending(states)) {
		t.Fatalf("SeenPut(%s, %q, %d) has %s", seenText(s), key, state, marksText(all))
	}
	return put
}

func TestSeenNumbers(t *testing.T) {
	if impl.MaxSeen != mostSeen || impl.StateQueued != 1 || impl.StateDone != 2 || impl.StateGone != 3 || impl.MaxUrl != longestKey {
		t.Error(impl.MaxSeen, impl.StateQueued, impl.StateDone, impl.StateGone, impl.MaxUrl)
	}
}

var putTexts = []struct {
	why, s string
	key    string
	state  int
	put    string
}{
	{"one into nothing", "", "a", 1, "a1"},
	{"one into nothing, done", "", "a", 2, "a2"},
	{"one into nothing, gone", "", "a", 3, "a3"},
	{"again, another State", "a1", "a", 2, "a2"},
	{"again, a lesser State", "a3", "a", 1, "a1"},
	{"again, the same", "a2", "a", 2, "a2"},
	{"behind", "a1", "b", 2, "a1 b2"},
	{"ahead", "b1", "a", 2, "a2 b1"},
	{"between", "a1 c3", "b", 2, "a1 b2 c3"},
	{"in its place, the first", "a1 b1 c1", "a", 3, "a3 b1 c1"},
	{"in its place, in the midst", "a1 b1 c1", "b", 3, "a1 b3 c1"},
	{"in its place, the last", "a1 b1 c1", "c", 3, "a1 b1 c3"},
	{"a beginning stands ahead", "aa1 ab1", "a", 2, "a2 aa1 ab1"},
	{"what goes on stands behind", "a1 b1", "aa", 2, "a1 aa2 b1"},
	{"large letters ahead of small ones", "B1 a1", "A", 2, "A2 B1 a1"},
	{"byte by byte, above 127", "a1 z1", "\xff", 2, "a1 z1 \xff2"},
	{"byte by byte, a rune behind another one", "\u00e91", "\u00e8", 2, "\u00e82 \u00e91"},
	{"by bytes, not by numbers", "101 91", "2", 2, "101 22 91"},

	{"the seventh stays in Mem", "a1 b1 c1 d1 e1 f1", "g", 2, "a1 b1 c1 d1 e1 f1 g2"},
	{"the eighth makes a run", "a1 b1 c1 d1 e1 f1 g1", "h", 2, "| a1 b1 c1 d1 e1 f1 g1 h2"},
	{"the eighth makes a run, ahead", "b1 c1 d1 e1 f1 g1 h1", "a", 2, "| a2 b1 c1 d1 e1 f1 g1 h1"},
	{"the eighth makes a run, in the midst", "a1 b1 c1 e1 f1 g1 h1", "d", 2, "| a1 b1 c1 d2 e1 f1 g1 h1"},
	{"again, with 7: no run", "a1 b1 c1 d1 e1 f1 g1", "d", 2, "a1 b1 c1 d2 e1 f1 g1"},
	{"again, with 8: a run", "a1 b1 c1 d1 e1 f1 g1 h1", "d", 2, "| a1 b1 c1 d2 e1 f1 g1 h1"},
	{"again the same, with 8: a run", "a1 b1 c1 d1 e1 f1 g1 h1", "h", 1, "| a1 b1 c1 d1 e1 f1 g1 h1"},
	{"the ninth, with 8: a run of 9", "a1 b1 c1 d1 e1 f1 g1 h1", "i", 2, "| a1 b1 c1 d1 e1 f1 g1 h1 i2"},
	{"the ninth, ahead of 8", "b1 c1 d1 e1 f1 g1 h1 i1", "a", 2, "| a2 b1 c1 d1 e1 f1 g1 h1 i1"},

	{"in a run alone: Mem has it, the run, too", "| a1 b1", "a", 2, "a2 | a1 b1"},
	{"in a run, with others in Mem", "b2 | a1 b1", "a", 3, "a3 b2 | a1 b1"},
	{"in Mem and in a run", "a2 | a1", "a", 3, "a3 | a1"},
	{"in all layers", "a2 | a1 | a3 | a2", "a", 1, "a1 | a1 | a3 | a2"},
	{"three runs stay, Mem not full", "| a1 | b1 | c1", "d", 1, "d1 | a1 | b1 | c1"},
	{"one run more, the newest, with one there", "b1 c1 d1 e1 f1 g1 h1 | z1", "a", 2, "| a2 b1 c1 d1 e1 f1 g1 h1 | z1"},
	{"one run more, the newest, ahead of keys that are less", "t1 u1 v1 w1 x1 y1 z1 | a1", "s", 2, "| s2 t1 u1 v1 w1 x1 y1 z1 | a1"},
	{"the third run", "b1 c1 d1 e1 f1 g1 h1 | y1 | z1", "a", 2, "| a2 b1 c1 d1 e1 f1 g1 h1 | y1 | z1"},
	{"the fourth run: the last two are one", "b1 c1 d1 e1 f1 g1 h1 | x1 | y2 | z3", "a", 2, "| a2 b1 c1 d1 e1 f1 g1 h1 | x1 | y2 z3"},
	{"the fourth run: the last two in turns", "b1 c1 d1 e1 f1 g1 h1 | x1 | b1 d1 f1 | a1 c1 e1 g1", "a", 2, "| a2 b1 c1 d1 e1 f1 g1 h1 | x1 | a1 b1 c1 d1 e1 f1 g1"},
	{"the fourth run: the newer Mark of each key", "b1 c1 d1 e1 f1 g1 h1 | x1 | p2 q2 | p1 q1 r1", "a", 2, "| a2 b1 c1 d1 e1 f1 g1 h1 | x1 | p2 q2 r1"},
	{"the fourth run: the newer Mark, of a lesser State", "b1 c1 d1 e1 f1 g1 h1 | x1 | p1 | p3", "a", 2, "| a2 b1 c1 d1 e1 f1 g1 h1 | x1 | p1"},
	{"the fourth run: what newer runs have stays in the last", "b1 c1 d1 e1 f1 g1 h1 | p1 | p2 | p3", "p", 3, "| b1 c1 d1 e1 f1 g1 h1 p3 | p1 | p2"},
	{"the fourth run, by a key again, with 8", "a1 b1 c1 d1 e1 f1 g1 h1 | x1 | y2 | y1 z3", "a", 2, "| a2 b1 c1 d1 e1 f1 g1 h1 | x1 | y2 z3"},
	{"the fourth run, all alike", "b1 c1 d1 e1 f1 g1 h1 | a1 | a2 | a3", "a", 2, "| a2 b1 c1 d1 e1 f1 g1 h1 | a1 | a2"},

	{"four runs, Mem not full: the last two are one", "| a1 | b1 | c2 | c1 d1", "e", 1, "e1 | a1 | b1 | c2 d1"},
	{"five runs: the last two alone", "| a1 | b1 | c1 | d2 | d1", "e", 1, "e1 | a1 | b1 | c1 | d2"},
	{"six runs: the last two alone", "| a1 | b1 | c1 | d1 | e1 | f1", "g", 1, "g1 | a1 | b1 | c1 | d1 | e1 f1"},
	{"six runs and one more: six are left", "b1 c1 d1 e1 f1 g1 h1 | u1 | v1 | w1 | x1 | y2 | y1 z1", "a", 2, "| a2 b1 c1 d1 e1 f1 g1 h1 | u1 | v1 | w1 | x1 | y2 z1"},
	{"six runs, the key in the last", "| a1 | b1 | c1 | d1 | e1 | e2 f1", "f", 3, "f3 | a1 | b1 | c1 | d1 | e1 f1"},
}

func TestPutTexts(t *testing.T) {
	for _, x := range putTexts {
		s := layers(x.s)
		put, ok := impl.SeenPut(s, x.key, x.state)
		if !ok || !sameSeen(put, layers(x.put)) {
			t.Errorf("%s: SeenPut(%s, %q, %d) = %s, %v; want %s", x.why, x.s, x.key, x.state, seenText(put), ok, x.put)
		}
		if got := impl.SeenGet(put, x.key); got != x.state {
			t.Errorf("%s: what is put is found as %d", x.why, got)
		}
		checkPut(t, s, x.key, x.state)
		checkSeen(t, s)
		checkSeen(t, put)
	}
}

var layerTexts = []struct {
	why, s, all string
}{
	{"nothing", "", ""},
	{"Mem alone", "a1 b2 c3", "a1 b2 c3"},
	{"one of each State", "a3 b1 c2", "a3 b1 c2"},
	{"Mem of 8", "a1 b2 c3 d1 e2 f3 g1 h2", "a1 b2 c3 d1 e2 f3 g1 h2"},
	{"one run alone", "| a1 b2", "a1 b2"},
	{"one run of more than 8", "| a1 b2 c3 d1 e2 f3 g1 h2 i3", "a1 b2 c3 d1 e2 f3 g1 h2 i3"},
	{"Mem and a run, apart", "a1 c2 | b3 d1", "a1 b3 c2 d1"},
	{"Mem and a run, the key in both: Mem counts", "a2 | a1", "a2"},
	{"Mem and a run, the key in both, of a lesser State", "a1 | a3", "a1"},
	{"two runs, the key in both: the first counts", "| a2 | a1", "a2"},
	{"two runs, the key in both, of a lesser State", "| a1 | a3", "a1"},
	{"the key in the last alone", "b1 | b1 | a2 b3", "a2 b1"},
	{"the key in Mem and in the last", "a1 | b2 | a2 b3", "a1 b2"},
	{"the key in the second and the third", "b1 | b1 | a3 | a2 b3", "a3 b1"},
	{"the key in all layers", "a3 | a1 | a2 | a1 | a2 | a1 | a2", "a3"},
	{"the key in all runs", "| a3 | a1 | a2 | a1 | a2 | a1", "a3"},
	{"every key in another one", "c1 | a1 | f2 | b2 | e3 | d3 | g1", "a1 b2 c1 d3 e3 f2 g1"},
	{"keys that begin alike", "ab1 | a2 abc3 | aa1 ab2", "a2 aa1 ab1 abc3"},
	{"large and small letters are others", "A1 | a2 | A3 B1 a1", "A1 B1 a2"},
	{"six runs, one Mark each", "| f1 | e2 | d3 | c1 | b2 | a3", "a3 b2 c1 d3 e2 f1"},
}

func TestLayerTexts(t *testing.T) {
	for _, x := range layerTexts {
		s, all := layers(x.s), marksOf(x.all)
		if !impl.SeenOk(s) {
			t.Errorf("%s: SeenOk(%s) is false", x.why, x.s)
		}
		if got := impl.SeenAll(s); !slices.Equal(got, all) {
			t.Errorf("%s: SeenAll(%s) = %s; want %s", x.why, x.s, marksText(got), x.all)
		}
		pressed := impl.SeenPress(s)
		if want := seenLayers(nil, all); len(all) > 0 && !sameSeen(pressed, want) {
			t.Errorf("%s: SeenPress(%s) = %s", x.why, x.s, seenText(pressed))
		}
		many := [5]int{}
		for _, m := range all {
			many[m.State]++
			if got := impl.SeenGet(s, m.Key); got != m.State {
				t.Errorf("%s: SeenGet(%s, %q) = %d; want %d", x.why, x.s, m.Key, got, m.State)
			}
			if got := impl.SeenGet(pressed, m.Key); got != m.State {
				t.Errorf("%s: pressed, %q is found as %d; want %d", x.why, m.Key, got, m.State)
			}
		}
		for state, want := range many {
			if got := impl.SeenCount(s, state); got != want {
				t.Errorf("%s: SeenCount(%s, %d) = %d; want %d", x.why, x.s, state, got, want)
			}
		}
		checkSeen(t, s)
	}
}

func TestPressOfNothing(t *testing.T) {
	for _, s := range []impl.Seen{{}, {Mem: marks{}}, {Runs: []marks{}}, {Mem: marks{}, Runs: []marks{}}} {
		if p := impl.SeenPress(s); len(p.Mem) != 0 || len(p.Runs) != 0 || !impl.SeenOk(s) {
			t.Errorf("SeenPress of nothing is %s", seenText(p))
		}
		if all := impl.SeenAll(s); len(all) != 0 {
			t.Errorf("SeenAll of nothing is %s", marksText(all))
		}
		checkPut(t, s, "a", 1)
	}
}

func TestGetOfKeysThatAreNotThere(t *testing.T) {
	for _, x := range layerTexts {
		s := layers(x.s)
		for _, key := range []string{"", " ", "x", "aaa", "A ", "a\x00", "\x00", "b ", "zz", strings.Repeat("a", longestKey+1)} {
			if got := impl.SeenGet(s, key); got != 0 {
				t.Errorf("%s: SeenGet(%s, %q) = %d", x.why, x.s, key, got)
			}
		}
	}
}

func TestPutOfStates(t *testing.T) {
	for state := -300; state <= 300; state++ {
		right := 1 <= state && state <= 3
		for _, told := range []string{"", "a1", "| a1", "b1 | a2", "a1 b1 c1 d1 e1 f1 g1", "a1 b1 c1 d1 e1 f1 g1 h1"} {
			s := layers(told)
			put, ok := impl.SeenPut(s, "a", state)
			if ok != right || !right && !sameSeen(put, s) {
				t.Errorf("SeenPut(%s, a, %d) = %s, %v", told, state, seenText(put), ok)
			}
			checkPut(t, s, "a", state)
		}
		if got := impl.SeenOk(seenLayers(marks{mark("a", state)})); got != right {
			t.Errorf("SeenOk of a Mark of State %d is %v", state, got)
		}
		if got := impl.SeenOk(seenLayers(nil, marks{mark("a", state)})); got != right {
			t.Errorf("SeenOk of a run of State %d is %v", state, got)
		}
	}
	for _, state := range []int{math.MinInt, math.MaxInt, 1 << 32, 1<<32 + 1, 257, -255, math.MinInt + 1} {
		if put, ok := impl.SeenPut(layers("b1"), "a", state); ok || !sameSeen(put, layers("b1")) {
			t.Errorf("the State %d is put", state)
		}
		if got := impl.SeenCount(layers("a1 b2 c3 | d1"), state); got != 0 {
			t.Errorf("SeenCount of the State %d is %d", state, got)
		}
	}
}

func TestPutOfKeys(t *testing.T) {
	for _, x := range []struct {
		why, key string
		right    bool
	}{
		{"no byte", "", false},
		{"one byte", "k", true},
		{"a byte 0", "\x00", true},
		{"a blank", " ", true},
		{"a byte 255", "\xff", true},
		{"no address", "no address", true},
		{"an address", "http://a.com/b?c", true},
		{"one less than MaxUrl bytes", strings.Repeat("k", longestKey-1), true},
		{"MaxUrl bytes", strings.Repeat("k", longestKey), true},
		{"MaxUrl bytes, of runes", strings.Repeat("é", longestKey/2), true},
		{"one more than MaxUrl", strings.Repeat("k", longestKey+1), false},
		{"one more than MaxUrl, of runes", strings.Repeat("é", longestKey/2) + "k", false},
		{"MaxUrl runes", strings.Repeat("é", longestKey), false},
		{"very many bytes", strings.Repeat("k", 300000), false},
	} {
		for _, told := range []string{"", "a1 z1", "| a1 | b1 | c1", "a1 b1 c1 d1 e1 f1 g1"} {
			s := layers(told)
			put, ok := impl.SeenPut(s, x.key, 2)
			if ok != x.right || !ok && !sameSeen(put, s) {
				t.Errorf("%s: put into %s: %s, %v", x.why, told, seenText(put), ok)
			}
			if got := impl.SeenGet(put, x.key); ok && got != 2 || !ok && got != 0 {
				t.Errorf("%s: put into %s, it is found as %d", x.why, told, got)
			}
			checkPut(t, s, x.key, 2)
		}
		for _, s := range []impl.Seen{seenLayers(marks{mark(x.key, 1)}), seenLayers(nil, marks{mark(x.key, 1)}), seenLayers(nil, marks{mark("0", 1)}, marks{mark(x.key, 1)})} {
			if got := impl.SeenOk(s); got != x.right {
				t.Errorf("%s: SeenOk(%s) = %v", x.why, seenText(s), got)
			}
			checkSeen(t, s)
			checkPut(t, s, "b", 1)
		}
	}
	for c := range 256 {
		put := checkPut(t, layers("a1 m2 | b1 n2"), oneByte(c), 3)
		checkSeen(t, put)
	}
}

func putAll(t *testing.T, keys []string, state func(i int) int) impl.Seen {
	t.Helper()
	s := impl.Seen{}
	for i, key := range keys {
		s = checkPut(t, s, key, state(i))
	}
	return s
}

// The layers of so many Marks, each of another key, whatever their order: Mem
// has what eights leave, and a fourth run goes into the last.
func checkManyLayers(t *testing.T, s impl.Seen, many int) {
	t.Helper()
	if len(s.Mem) != many%8 || len(s.Runs) != min(many/8, 3) {
		t.Fatalf("%d Marks in a Mem of %d, and in %d runs", many, len(s.Mem), len(s.Runs))
	}
	for i, run := range s.Runs {
		if i < 2 && len(run) != 8 || i == 2 && len(run) != many/8*8-16 {
			t.Fatalf("of %d Marks %d in run %d", many, len(run), i)
		}
	}
	if all := impl.SeenAll(s); len(all) != many {
		t.Fatalf("of %d Marks are %d there", many, len(all))
	}
}

func TestManyPuts(t *testing.T) {
	rising := someKeys("k", mostSeen)
	falling := slices.Clone(rising)
	slices.Reverse(falling)
	mixed := slices.Clone(rising)
	rand.New(rand.NewSource(15)).Shuffle(len(mixed), func(i, k int) { mixed[i], mixed[k] = mixed[k], mixed[i] })
	for _, keys := range [][]string{rising, falling, mixed} {
		s := impl.Seen{}
		for i, key := range keys {
			s = checkPut(t, s, key, 1+i%3)
			checkManyLayers(t, s, i+1)
		}
		for i, key := range keys {
			if got := impl.SeenGet(s, key); got != 1+i%3 {
				t.Fatalf("behind all puts %q is found as %d", key, got)
			}
		}
		if impl.SeenCount(s, 1) != 134 || impl.SeenCount(s, 2) != 133 || impl.SeenCount(s, 3) != 133 {
			t.Error("of each State", impl.SeenCount(s, 1), impl.SeenCount(s, 2), impl.SeenCount(s, 3))
		}
		for _, key := range []string{"a", "k2", "z", rising[0], mixed[200]} {
			if put, ok := impl.SeenPut(s, key, 1); ok || !sameSeen(put, s) {
				t.Errorf("%q is put as one more than MaxSeen", key)
			}
			checkPut(t, s, key, 1)
		}
		checkSeen(t, s)
	}
}

// One key alone, or a few, are put without an end: what is hidden goes when
// runs become one.
func TestPutsOfFewKeys(t *testing.T) {
	for _, few := range []int{1, 2, 7, 8, 9, 20} {
		keys := someKeys("", few)
		s := impl.Seen{}
		for i := range 600 {
			s = checkPut(t, s, keys[i*7%few], 1+i/few%3)
			if len(impl.SeenAll(s)) > few {
				t.Fatalf("of %d keys are %s there", few, marksText(impl.SeenAll(s)))
			}
		}
		if _, ok := impl.SeenPut(s, "another", 1); !ok {
			t.Errorf("behind 600 puts of %d keys no other is put", few)
		}
	}
}

func TestPutsOfEveryOrder(t *testing.T) {
	var order func(left, taken []string)
	order = func(left, taken []string) {
		if len(left) == 0 {
			s := putAll(t, taken, func(i int) int { return 1 + i%3 })
			for i, key := range taken {
				if impl.SeenGet(s, key) != 1+i%3 || s.Mem[slices.Index([]string{"a", "aa", "b", "c", "d"}, key)].Key != key {
					t.Fatalf("put in the order %v they are %s", taken, seenText(s))
				}
			}
			return
		}
		for i := range left {
			order(slices.Delete(slices.Clone(left), i, i+1), append(slices.Clone(taken), left[i]))
		}
	}
	order([]string{"a", "aa", "b", "c", "d"}, nil)
}

// Every row of puts of two keys and two States, onto layers that are nearly
// full.
func TestPutsOfEveryRow(t *testing.T) {
	aheads := []impl.Seen{{}, layers("c1 d1 e1 f1 g1 h1"), layers("c1 d1 e1 f1 g1 h1 | a1 | b1 | a2 b2")}
	eachText("aAbB", 4, func(row string) {
		for _, s := range aheads {
			for _, c := range []byte(row) {
				s = checkPut(t, s, strings.ToLower(oneByte(int(c))), 1+int(c&32)/32)
			}
			checkSeen(t, s)
		}
	})
}

// Every Seen of two keys and two States in at most four layers, and every put
// into it.
func TestEverySmallSeen(t *testing.T) {
	kinds := []string{"a1", "a2", "b1", "a1 b2", "a2 b1"}
	mems := append([]string{"", "b3"}, kinds...)
	var grow func(told string, runs int)
	grow = func(told string, runs int) {
		s := layers(told)
		checkSeen(t, s)
		for _, key := range []string{"a", "b"} {
			checkPut(t, s, key, 3)
		}
		if runs < 4 {
			for _, kind := range kinds {
				grow(told+"|"+kind, runs+1)
			}
		}
	}
	for _, mem := range mems {
		grow(mem, 0)
	}
}

// The key in every choice of layers, each with a State of its own: the newest
// counts.
func TestKeyInEveryChoiceOfLayers(t *testing.T) {
	for choice := range 1 << 7 {
		s := impl.Seen{Mem: marksOf("b1 z1")}
		for range 6 {
			s.Runs = append(s.Runs, marksOf("c1 y1"))
		}
		want := 0
		for layer := 6; layer >= 0; layer-- {
			if choice>>layer&1 == 0 {
				continue
			}
			want = 1 + (layer+choice)%3
			if layer == 0 {
				s.Mem = slices.Insert(s.Mem, 1, mark("m", want))
			} else {
				s.Runs[layer-1] = slices.Insert(s.Runs[layer-1], 1, mark("m", want))
			}
		}
		if got := impl.SeenGet(s, "m"); got != want {
			t.Errorf("SeenGet(%s, m) = %d; want %d", seenText(s), got, want)
		}
		if all := impl.SeenAll(s); want != 0 && (len(all) != 5 || all[2] != mark("m", want)) || want == 0 && len(all) != 4 {
			t.Errorf("SeenAll(%s) = %s", seenText(s), marksText(all))
		}
		if got := impl.SeenGet(impl.SeenPress(s), "m"); got != want {
			t.Errorf("pressed, %s has m as %d; want %d", seenText(s), got, want)
		}
		if put, ok := impl.SeenPut(s, "a", 1); !ok || impl.SeenGet(put, "m") != want {
			t.Errorf("behind a put %s has m as %d; want %d", seenText(s), impl.SeenGet(put, "m"), want)
		}
		checkSeen(t, s)
		checkPut(t, s, "m", 1+choice%3)
	}
}

// Mem of every many Marks up to its bound, beside every many runs.
func TestPutsOfEveryManyLayers(t *testing.T) {
	for many := range seenInMem + 1 {
		for runs := range seenRunsAll + 1 {
			s := impl.Seen{Mem: stand("m", many, 1)}
			for i := range runs {
				s.Runs = append(s.Runs, append(stand("m", 3, 1+i%3), stand(fmt.Sprint("r", i), 2, 2)...))
			}
			if !impl.SeenOk(s) {
				t.Errorf("%d in Mem and %d runs are not right", many, runs)
			}
			checkSeen(t, s)
			for _, key := range []string{"a", "m000", "m001", "m007", "m009", "r0001", "r5000", "z"} {
				checkSeen(t, checkPut(t, s, key, 3))
			}
		}
	}
}

var fullSeens = []struct {
	why string
	s   impl.Seen
	key string
	ok  bool
}{
	{"one less, another key", seenLayers(nil, stand("k", mostSeen-1, 1)), "a", true},
	{"one less, the key in the run", seenLayers(nil, stand("k", mostSeen-1, 1)), "k007", true},
	{"full in one run, another key", seenLayers(nil, stand("k", mostSeen, 1)), "a", false},
	{"full in one run, the key there", seenLayers(nil, stand("k", mostSeen, 1)), "k007", false},
	{"full in Mem and one run, another key", seenLayers(stand("m", 3, 1), stand("k", mostSeen-3, 1)), "a", false},
	{"full in Mem and one run, the key in the run", seenLayers(stand("m", 3, 1), stand("k", mostSeen-3, 1)), "k007", false},
	{"full in Mem and one run, the key in Mem", seenLayers(stand("m", 3, 1), stand("k", mostSeen-3, 1)), "m001", true},
	{"full, the key in Mem and in the run", seenLayers(stand("k", 3, 1), stand("k", mostSeen-3, 1)), "k001", true},
	{"full, hidden Marks count, too", seenLayers(stand("k", 3, 1), stand("k", mostSeen-3, 1)), "a", false},
	{"full, with 7 in Mem: the eighth", seenLayers(stand("m", 7, 1), stand("k", mostSeen-7, 1)), "a", false},
	{"full, with 8 in Mem: the key in Mem", seenLayers(stand("m", 8, 1), stand("k", mostSeen-8, 1)), "m001", true},
	{"full, with 8 in Mem: the ninth", seenLayers(stand("m", 8, 1), stand("k", mostSeen-8, 1)), "a", false},
	{"one less, with 8 in Mem: the ninth", seenLayers(stand("m", 8, 1), stand("k", mostSeen-9, 1)), "a", true},
	{"full, the fourth run, the last two apart", seenLayers(stand("m", 7, 1), stand("k", 300, 1), stand("x", 50, 1), stand("y", 43, 1)), "a", false},
	{"full, the fourth run, the last two alike in one", seenLayers(stand("m", 7, 1), stand("k", 300, 1), append(marks{mark("a", 2)}, stand("x", 50, 1)...), append(marks{mark("a", 3)}, stand("y", 41, 1)...)), "b", true},
	{"full, the fourth run, that one is put", seenLayers(stand("m", 7, 1), stand("k", 300, 1), append(marks{mark("a", 2)}, stand("x", 50, 1)...), append(marks{mark("a", 3)}, stand("y", 41, 1)...)), "a", true},
	{"full, the fourth run, the last two alike in all", seenLayers(stand("m", 7, 1), stand("k", 193, 1), stand("x", 100, 1), stand("x", 100, 2)), "a", true},
	{"full, the fourth run, other two alike", seenLayers(stand("m", 7, 1), stand("x", 50, 1), stand("x", 50, 2), stand("k", 293, 2)), "a", false},
	{"full, three runs alike, Mem not full", seenLayers(stand("m", 6, 1), stand("k", 194, 1), stand("x", 100, 1), stand("x", 100, 2)), "a", false},
	{"full in six runs, the last two alike in one", seenLayers(nil, stand("k", 393, 1), marksOf("a1"), marksOf("b1"), marksOf("c1"), marksOf("d1"), marksOf("d2 e1 f1")), "z", true},
	{"full in six runs, the last two apart", seenLayers(nil, stand("k", 393, 1), marksOf("a1"), marksOf("b1"), marksOf("c1"), marksOf("d1"), marksOf("e1 f1 g1")), "z", false},
}

func seenTogether(s impl.Seen) int {
	many := len(s.Mem)
	for _, run := range s.Runs {
		many += len(run)
	}
	return many
}

func TestPutsAboutMaxSeen(t *testing.T) {
	for _, x := range fullSeens {
		if many := seenTogether(x.s); !impl.SeenOk(x.s) || many != mostSeen && !strings.HasPrefix(x.why, "one less") {
			t.Errorf("%s: %d Marks, SeenOk %v", x.why, many, impl.SeenOk(x.s))
		}
		put, ok := impl.SeenPut(x.s, x.key, 3)
		if ok != x.ok {
			t.Errorf("%s: %v", x.why, ok)
		}
		if !ok && !sameSeen(put, x.s) {
			t.Errorf("%s: what is refused changes", x.why)
		}
		if ok && (impl.SeenGet(put, x.key) != 3 || seenTogether(put) > mostSeen) {
			t.Errorf("%s: it is found as %d, %d Marks together", x.why, impl.SeenGet(put, x.key), seenTogether(put))
		}
		checkPut(t, x.s, x.key, 3)
		checkSeen(t, x.s)
		checkSeen(t, put)
	}
}

// A run may have as many as all together may; one more is no right Seen,
// wherever it stands.
func TestSeensOfAboutMaxSeen(t *testing.T) {
	for many := mostSeen - 2; many <= mostSeen+2; many++ {
		for _, s := range []impl.Seen{
			seenLayers(nil, stand("k", many, 1)),
			seenLayers(stand("k", 8, 2), stand("k", many-8, 1)),
			seenLayers(nil, stand("k", 200, 1), stand("k", many-200, 1)),
			seenLayers(nil, stand("k", many-200, 1), stand("x", 200, 1)),
			seenLayers(stand("k", 5, 1), stand("k", 5, 1), stand("k", 5, 1), stand("k", 5, 1), stand("k", 5, 1), stand("k", 5, 1), stand("k", many-30, 1)),
		} {
			if got := impl.SeenOk(s); got != (many <= mostSeen) {
				t.Errorf("SeenOk of %d Marks is %v", many, got)
			}
			checkSeen(t, s)
			for _, key := range []string{"a", "k000", "k250", "x100"} {
				checkPut(t, s, key, 3)
			}
		}
	}
}

var wrongSeens = []struct {
	why string
	s   impl.Seen
}{
	{"Mem falls", layers("b1 a1")},
	{"Mem has two alike", layers("a1 a1")},
	{"Mem has two alike, of two States", layers("a1 a2")},
	{"Mem has two alike, one between", layers("a1 b1 a2")},
	{"the last of Mem falls", layers("a1 b1 d1 c1")},
	{"a beginning behind what goes on", layers("ab1 a1")},
	{"small letters ahead of large ones", layers("a1 B1")},
	{"by numbers, not by bytes", layers("91 101")},
	{"a run falls", layers("| b1 a1")},
	{"a run has two alike", layers("a1 | b1 b1")},
	{"a run has two alike, of two States", layers("| b3 b2")},
	{"the second run falls", layers("a1 | a1 | c1 b1")},
	{"the last run has two alike", layers("| a1 | b1 | c1 | d1 | e1 | f1 f2")},
	{"a State of 0", seenLayers(marks{mark("a", 0)})},
	{"a State of 4", seenLayers(marks{mark("a", 4)})},
	{"a State below 0", seenLayers(marks{mark("a", -1)})},
	{"the greatest State", seenLayers(marks{mark("a", math.MaxInt)})},
	{"the least State", seenLayers(marks{mark("a", math.MinInt)})},
	{"a State of 0 in a run", layers("a1 | a1 b0")},
	{"a State of 4 in the last run", layers("a1 | a1 | b4")},
	{"a State of 0 ahead of another", layers("a0 | a2")},
	{"a State of 0 behind another", layers("a2 | a0")},
	{"an empty key", seenLayers(marks{mark("", 1)})},
	{"an empty key with others", seenLayers(marks{mark("", 1), mark("a", 1)})},
	{"an empty key in a run", seenLayers(marksOf("a1"), marks{mark("", 2), mark("b", 1)})},
	{"an empty key in two layers", seenLayers(marks{mark("", 3)}, marks{mark("", 2)})},
	{"the zero Mark", seenLayers(marks{{}})},
	{"a key of one more than MaxUrl bytes", seenLayers(marks{mark(strings.Repeat("k", longestKey+1), 1)})},
	{"a key of one more than MaxUrl bytes in a run", seenLayers(nil, marksOf("a1"), marks{mark(strings.Repeat("k", longestKey+1), 1)})},
	{"Mem of 9", layers("a1 b1 c1 d1 e1 f1 g1 h1 i1")},
	{"Mem of 9, beside runs", layers("a1 b1 c1 d1 e1 f1 g1 h1 i1 | a2 | j1")},
	{"an empty run", layers("|")},
	{"an empty run behind Mem", layers("a1 |")},
	{"an empty run ahead of others", layers("||a1")},
	{"an empty run between others", layers("| a1 || b1")},
	{"an empty run behind others", layers("a1 | b1 | c1 |")},
	{"empty runs alone", layers("||||||")},
	{"7 runs", layers("| a1 | b1 | c1 | d1 | e1 | f1 | g1")},
	{"7 runs and Mem", layers("a2 | a1 | b1 | c1 | d1 | e1 | f1 | g1")},
	{"7 runs of one key", layers("| a1 | a2 | a3 | a1 | a2 | a3 | a1")},
	{"7 runs, one of them empty", layers("| a1 | b1 | c1 || d1 | e1 | f1")},
	{"20 runs", layers(strings.Repeat("| a1 b2", 20))},
	{"too many together", seenLayers(nil, stand("k", mostSeen+1, 1))},
	{"too many together, hidden ones", seenLayers(stand("k", 1, 2), stand("k", mostSeen, 1))},
	{"too many together, in six runs", seenLayers(stand("k", 8, 1), stand("k", 66, 1), stand("k", 66, 1), stand("k", 66, 1), stand("k", 66, 1), stand("k", 66, 1), stand("k", 63, 1))},
	{"wrong in all", layers("c1 b0 a9 b2 | | z1 a2 b3 | | a4 | a5 | a6 | a7")},
}

// What is not right is refused as it is; what is asked of it alone, by the
// words of it: the first layer that has a key, and the first in its list.
func TestWrongSeens(t *testing.T) {
	for _, x := range wrongSeens {
		if impl.SeenOk(x.s) {
			t.Errorf("%s: SeenOk", x.why)
		}
		for _, m := range []impl.Mark{mark("a", 1), mark("b", 2), mark("k001", 3), mark("zz", 1), mark("", 1), mark("a", 0), mark("a", 4)} {
			if put, ok := impl.SeenPut(x.s, m.Key, m.State); ok || !sameSeen(put, x.s) {
				t.Errorf("%s: put %q, it is %s, %v", x.why, m.Key, seenText(put), ok)
			}
			checkPut(t, x.s, m.Key, m.State)
		}
		if p := impl.SeenPress(x.s); !sameSeen(p, x.s) {
			t.Errorf("%s: pressed it is %s", x.why, seenText(p))
		}
		checkSeen(t, x.s)
	}
}

func TestWhatWrongSeensHave(t *testing.T) {
	for _, x := range []struct{ s, all string }{
		{"b1 a1", "a1 b1"},
		{"a1 a2", "a1"},
		{"a2 a1", "a2"},
		{"a1 b1 a2", "a1 b1"},
		{"b2 | b1 a1 | a3 c1", "a1 b2 c1"},
		{"a0 | a2", "a0"},
		{"a1 b1 c1 d1 e1 f1 g1 h1 i1 | a2 j1", "a1 b1 c1 d1 e1 f1 g1 h1 i1 j1"},
		{"|| a1 || b1", "a1 b1"},
		{"| a1 | b1 | c1 | d1 | e1 | f1 | a2 g1", "a1 b1 c1 d1 e1 f1 g1"},
		{"c1 b0 a9 b2 | | z1 a2 b3 | | a4", "a9 b0 c1 z1"},
	} {
		s, all := layers(x.s), marksOf(x.all)
		if got := impl.SeenAll(s); !slices.Equal(got, all) {
			t.Errorf("SeenAll(%s) = %s; want %s", x.s, marksText(got), x.all)
		}
		for _, m := range all {
			if got := impl.SeenGet(s, m.Key); got != m.State {
				t.Errorf("SeenGet(%s, %q) = %d; want %d", x.s, m.Key, got, m.State)
			}
		}
	}
}

func someSeen(turn *rand.Rand, keys []string) impl.Seen {
	layer := func(most int) marks {
		states := map[string]int{}
		for range turn.Intn(most + 1) {
			states[keys[turn.Intn(len(keys))]] = 1 + turn.Intn(3)
		}
		return wantAscending(states)
	}
	s := impl.Seen{Mem: layer(seenInMem)}
	for range turn.Intn(seenRunsAll + 1) {
		if run := layer(1 + turn.Intn(90)); len(run) > 0 {
			s.Runs = append(s.Runs, run)
		}
	}
	return s
}

func TestManySeens(t *testing.T) {
	turn := rand.New(rand.NewSource(151))
	few, many := someKeys("", 12), someKeys("k", 900)
	for range 1500 {
		keys := few
		if turn.Intn(2) == 0 {
			keys = many
		}
		s := someSeen(turn, keys)
		checkSeen(t, s)
		for range 5 {
			s = checkPut(t, s, keys[turn.Intn(len(keys))], 1+turn.Intn(3))
		}
	}
}

// One thing is turned wrong in a right one, or nothing is.
func TestManySeensWithAFault(t *testing.T) {
	turn := rand.New(rand.NewSource(152))
	keys := append(someKeys("", 30), "", strings.Repeat("k", longestKey), strings.Repeat("k", longestKey+1))
	for range 3000 {
		s := someSeen(turn, keys[:30])
		for _, l := range append([]marks{s.Mem}, s.Runs...) {
			if len(l) == 0 || turn.Intn(4) > 0 {
				continue
			}
			at, to := turn.Intn(len(l)), turn.Intn(len(l))
			switch turn.Intn(3) {
			case 0:
				l[at], l[to] = l[to], l[at]
			case 1:
				l[at].Key = keys[turn.Intn(len(keys))]
			case 2:
				l[at].State = turn.Intn(7) - 2
			}
		}
		checkSeen(t, s)
		checkPut(t, s, keys[turn.Intn(len(keys))], turn.Intn(5))
	}
}

// Puts and presses in turns: all that was put is there, in whatever layers.
func TestPutsAndPresses(t *testing.T) {
	turn := rand.New(rand.NewSource(153))
	for range 20 {
		s, states := impl.Seen{}, map[string]int{}
		keys := someKeys("k", 20+turn.Intn(150))
		for range 200 {
			if turn.Intn(15) == 0 {
				s = impl.SeenPress(s)
			}
			key, state := keys[turn.Intn(len(keys))], 1+turn.Intn(3)
			put := checkPut(t, s, key, state)
			if _, ok := impl.SeenPut(s, key, state); !ok {
				t.Fatalf("%q is not put into %d Marks", key, seenTogether(s))
			}
			s, states[key] = put, state
			if !slices.Equal(impl.SeenAll(s), wantAscending(states)) {
				t.Fatalf("%s is there; %d keys were put", marksText(impl.SeenAll(s)), len(states))
			}
		}
		checkSeen(t, s)
	}
}

func TestSeensOfVeryMany(t *testing.T) {
	const many = 300000
	big := make(marks, 0, many)
	for i := range many {
		big = append(big, mark(fmt.Sprintf("%06d", many-i), 1+i%3))
	}
	tooMany := make([]marks, many)
	for i := range tooMany {
		tooMany[i] = marks{mark("a", 1+i%3)}
	}
	for _, x := range []struct {
		why string
		ask func() bool
	}{
		{"a long Mem", func() bool {
			s := seenLayers(big)
			put, ok := impl.SeenPut(s, "a", 1)
			return !impl.SeenOk(s) && !ok && sameSeen(put, s) && len(impl.SeenAll(s)) == many && impl.SeenCount(s, 1) == many/3 && sameSeen(impl.SeenPress(s), s)
		}},
		{"a long run", func() bool {
			s := seenLayers(nil, big)
			put, ok := impl.SeenPut(s, "a", 1)
			return !impl.SeenOk(s) && !ok && sameSeen(put, s) && impl.SeenAll(s)[0] == big[many-1] && impl.SeenGet(s, "000001") == 3
		}},
		{"very many runs", func() bool {
			s := seenLayers(nil, tooMany...)
			put, ok := impl.SeenPut(s, "a", 1)
			return !impl.SeenOk(s) && !ok && sameSeen(put, s) && slices.Equal(impl.SeenAll(s), marksOf("a1")) && sameSeen(impl.SeenPress(s), s)
		}},
		{"very many empty runs", func() bool {
			s := impl.Seen{Runs: make([]marks, many)}
			return !impl.SeenOk(s) && len(impl.SeenAll(s)) == 0 && impl.SeenGet(s, "a") == 0 && len(impl.SeenPress(s).Runs) == many
		}},
		{"keys of MaxUrl bytes that differ at their end", func() bool {
			s := impl.Seen{}
			for i := range mostSeen {
				key := strings.Repeat("k", longestKey-3) + fmt.Sprintf("%03d", i*7%mostSeen)
				put, ok := impl.SeenPut(s, key, 1)
				if !ok || impl.SeenGet(put, key) != 1 {
					return false
				}
				s = put
			}
			return impl.SeenCount(s, 1) == mostSeen
		}},
	} {
		soon(t, x.why, x.ask, true)
	}
}

// roomySeen has more behind each list's length, which a call must neither read
// nor write.
func roomySeen(s impl.Seen) (roomy impl.Seen, rooms []marks, outer []marks) {
	room := func(l marks) marks {
		longer := append(slices.Clone(l), mark("behind", 1), mark("", 9), mark("a", 2), mark("behind", 3))
		rooms = append(rooms, longer)
		return longer[:len(l)]
	}
	roomy.Mem = room(s.Mem)
	for _, run := range s.Runs {
		outer = append(outer, room(run))
	}
	many := len(outer)
	outer = append(outer, marksOf("behind1"), marks{}, marksOf("a2"))
	roomy.Runs = outer[:many]
	return roomy, rooms, outer
}

func sameRooms(a, b []marks) bool { return slices.EqualFunc(a, b, slices.Equal[marks]) }

func scribble(l marks) {
	for i := range l {
		l[i] = mark("written", 9)
	}
	_ = append(l, mark("written", 9), mark("written", 9))
}

func scribbleAll(s impl.Seen) {
	scribble(s.Mem)
	for i := range s.Runs {
		scribble(s.Runs[i])
		s.Runs[i] = marksOf("written9")
	}
	_ = append(s.Runs, marksOf("written9"), marksOf("written9"))
}

func seensToAsk() []impl.Seen {
	l := []impl.Seen{}
	for _, x := range putTexts {
		l = append(l, layers(x.s))
	}
	for _, x := range layerTexts {
		l = append(l, layers(x.s))
	}
	for _, x := range fullSeens {
		l = append(l, x.s)
	}
	for _, x := range wrongSeens {
		l = append(l, x.s)
	}
	return l
}

func TestSeensLeaveTheirArgument(t *testing.T) {
	for _, s := range seensToAsk() {
		roomy, rooms, outer := roomySeen(s)
		_, before, outerBefore := roomySeen(s)
		if got := impl.SeenOk(roomy); got != wantSeenOk(s) {
			t.Errorf("SeenOk reads behind %s", seenText(s))
		}
		for _, m := range []impl.Mark{mark("a", 1), mark("k001", 2), mark("zz", 3), mark("", 1), mark("b", 7)} {
			put, ok := impl.SeenPut(roomy, m.Key, m.State)
			if want, wantOk := wantPut(s, m.Key, m.State); ok != wantOk || !sameSeen(put, want) {
				t.Errorf("SeenPut reads behind %s", seenText(s))
			}
			scribbleAll(put)
		}
		if got := impl.SeenGet(roomy, "behind"); got != 0 {
			t.Errorf("SeenGet reads behind %s", seenText(s))
		}
		all := impl.SeenAll(roomy)
		if !slices.Equal(all, wantAscending(wantStates(s))) {
			t.Errorf("SeenAll reads behind %s", seenText(s))
		}
		scribble(all)
		if got := impl.SeenCount(roomy, 9); got != wantCountOf(s, 9) {
			t.Errorf("SeenCount reads behind %s", seenText(s))
		}
		pressed := impl.SeenPress(roomy)
		if !sameSeen(pressed, wantPress(s)) {
			t.Errorf("SeenPress reads behind %s", seenText(s))
		}
		scribbleAll(pressed)
		if !sameSeen(roomy, s) || !sameRooms(rooms, before) || !sameRooms(outer, outerBefore) {
			t.Fatalf("written into %s, or behind it: %s", seenText(s), seenText(roomy))
		}
	}
}

func wantCountOf(s impl.Seen, state int) int {
	many := 0
	for _, of := range wantStates(s) {
		if of == state {
			many++
		}
	}
	return many
}

// ownKeys gives each Mark a text of its own memory, as a key that stands in
// two layers may lie in one.
func ownKeys(s impl.Seen) impl.Seen {
	s = copyOf(s)
	for _, l := range append([]marks{s.Mem}, s.Runs...) {
		for i := range l {
			l[i].Key = strings.Clone(l[i].Key)
		}
	}
	return s
}

func listsOf(s impl.Seen) []marks { return append([]marks{s.Mem}, s.Runs...) }

func keysLieIn(l, in marks) bool {
	from, within := map[string][]string{}, false
	for _, m := range in {
		from[m.Key] = append(from[m.Key], m.Key)
	}
	for _, m := range l {
		for _, key := range from[m.Key] {
			within = within || lies(m.Key, key)
		}
	}
	return within
}

func checkListIsNew(t *testing.T, why string, l marks, s impl.Seen) {
	t.Helper()
	if overlap(l, s.Runs) {
		t.Errorf("%s: a list lies in the list of %s's runs", why, seenText(s))
	}
	for _, of := range listsOf(s) {
		if overlap(l, of) || keysLieIn(l, of) {
			t.Errorf("%s: a list shares memory with %s", why, seenText(s))
		}
	}
}

// checkIsNew: what is answered shares no memory with s, nor its lists with
// each other.
func checkIsNew(t *testing.T, why string, answer, s impl.Seen) {
	t.Helper()
	if overlap(answer.Runs, s.Runs) || slices.ContainsFunc(listsOf(s), func(l marks) bool { return overlap(answer.Runs, l) }) {
		t.Errorf("%s: the list of runs shares memory with %s", why, seenText(s))
	}
	for i, l := range listsOf(answer) {
		checkListIsNew(t, why, l, s)
		if overlap(l, answer.Runs) {
			t.Errorf("%s: the list of runs lies in one of its layers", why)
		}
		for k, other := range listsOf(answer) {
			if i != k && overlap(l, other) {
				t.Errorf("%s: the layers %d and %d of %s share memory", why, i, k, seenText(answer))
			}
		}
	}
}

func TestSeensAreNewMemory(t *testing.T) {
	for _, s := range seensToAsk() {
		s = ownKeys(s)
		for _, m := range []impl.Mark{mark("aaaa", 1), mark("k001", 2), mark("zz", 3), mark("", 1), mark("bb", 7)} {
			key := strings.Clone(m.Key)
			put, _ := impl.SeenPut(s, key, m.State)
			again, _ := impl.SeenPut(s, key, m.State)
			checkIsNew(t, "SeenPut", put, s)
			checkIsNew(t, "SeenPut, twice", put, again)
			for _, l := range listsOf(put) {
				if keysLieIn(l, marks{mark(key, 1)}) {
					t.Errorf("the key that is put lies in its argument's memory: %s", seenText(put))
				}
			}
		}
		all := impl.SeenAll(s)
		checkListIsNew(t, "SeenAll", all, s)
		checkListIsNew(t, "SeenAll, twice", all, seenLayers(impl.SeenAll(s)))
		pressed := impl.SeenPress(s)
		checkIsNew(t, "SeenPress", pressed, s)
		checkIsNew(t, "SeenPress, twice", pressed, impl.SeenPress(s))
	}
}

// What is put on one and the same Seen twice makes two answers that know
// nothing of each other.
func TestPutsFromOneSeen(t *testing.T) {
	for _, x := range putTexts {
		s := layers(x.s)
		one, _ := impl.SeenPut(s, "aone", 1)
		two, _ := impl.SeenPut(s, "atwo", 2)
		if impl.SeenGet(one, "atwo") != 0 || impl.SeenGet(two, "aone") != 0 || impl.SeenGet(one, "aone") != 1 || impl.SeenGet(two, "atwo") != 2 {
			t.Errorf("%s: two puts are %s and %s", x.why, seenText(one), seenText(two))
		}
		if !sameSeen(s, layers(x.s)) {
			t.Errorf("%s: two puts make it %s", x.why, seenText(s))
		}
	}
}

func TestSeensKeepNothing(t *testing.T) {
	for _, ahead := range wrongSeens {
		for _, x := range putTexts[:20] {
			impl.SeenPut(ahead.s, "a", 1)
			impl.SeenPress(ahead.s)
			impl.SeenAll(ahead.s)
			if put, ok := impl.SeenPut(layers(x.s), x.key, x.state); !ok || !sameSeen(put, layers(x.put)) {
				t.Fatalf("%s, behind %s: %s, %v", x.why, ahead.why, seenText(put), ok)
			}
		}
	}
	if all := impl.SeenAll(impl.Seen{}); len(all) != 0 {
		t.Errorf("behind all of it nothing has %s", marksText(all))
	}
}
