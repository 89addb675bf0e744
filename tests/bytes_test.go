package tests

import (
	"bytes"
	"encoding/binary"
	"hash/crc32"
	"math"
	"math/rand"
	"slices"
	"strings"
	"testing"
	"unsafe"

	"loop.example/g00191/impl"
)

const greatestNum = 1000000000

var numBytes = []struct {
	n int
	b string
}{
	{0, "\x00"},
	{1, "\x01"},
	{2, "\x02"},
	{64, "\x40"},
	{126, "\x7e"},
	{127, "\x7f"},
	{128, "\x80\x01"},
	{129, "\x81\x01"},
	{255, "\xff\x01"},
	{256, "\x80\x02"},
	{300, "\xac\x02"},
	{16383, "\xff\x7f"},
	{16384, "\x80\x80\x01"},
	{16385, "\x81\x80\x01"},
	{2097151, "\xff\xff\x7f"},
	{2097152, "\x80\x80\x80\x01"},
	{268435455, "\xff\xff\xff\x7f"},
	{268435456, "\x80\x80\x80\x80\x01"},
	{999999999, "\xff\x93\xeb\xdc\x03"},
	{1000000000, "\x80\x94\xeb\xdc\x03"},
}

var nearerNums = []struct {
	why     string
	n, near int
}{
	{"one below", -1, 0},
	{"below by a group's worth", -128, 0},
	{"below by the greatest", -greatestNum, 0},
	{"below by 32 bits", -1 << 32, 0},
	{"the least there is", math.MinInt, 0},
	{"one above", greatestNum + 1, greatestNum},
	{"all five groups", 1<<35 - 1, greatestNum},
	{"more groups", 1 << 35, greatestNum},
	{"a lower half that is nought", 1 << 32, greatestNum},
	{"the greatest there is", math.MaxInt, greatestNum},
}

var noNumBytes = []struct{ why, b string }{
	{"none", ""},
	{"a first group, and no more", "\x80"},
	{"a first group, and no more", "\xff"},
	{"two groups, and no more", "\x80\x81"},
	{"four groups, and no more", "\xff\xff\xff\xff"},
	{"five groups, and no more", "\x80\x80\x80\x80\x80"},
	{"nought in two groups", "\x80\x00"},
	{"one in two groups", "\x81\x00"},
	{"127 in two groups", "\xff\x00"},
	{"128 in three groups", "\x80\x81\x00"},
	{"nought in five groups", "\x80\x80\x80\x80\x00"},
	{"the greatest in six groups", "\x80\x94\xeb\xdc\x83\x00"},
	{"nought in ten groups", "\x80\x80\x80\x80\x80\x80\x80\x80\x80\x00"},
	{"above by one", "\x81\x94\xeb\xdc\x03"},
	{"above by the second group", "\x80\x95\xeb\xdc\x03"},
	{"above by the last group", "\x80\x80\x80\x80\x04"},
	{"above in 32 bits", "\xff\xff\xff\xff\x0f"},
	{"32 bits that are nought, and one more", "\x80\x80\x80\x80\x10"},
	{"all five groups", "\xff\xff\xff\xff\x7f"},
	{"six groups", "\x80\x80\x80\x80\x80\x01"},
	{"six groups, the lowest one", "\x81\x80\x80\x80\x80\x01"},
	{"the ninth group", "\x85\x80\x80\x80\x80\x80\x80\x80\x01"},
	{"the tenth group", "\x85\x80\x80\x80\x80\x80\x80\x80\x80\x01"},
	{"a tenth group that turns 64 bits to those below 0", "\xff\xff\xff\xff\xff\xff\xff\xff\xff\x01"},
	{"a tenth group out of 64 bits", "\x85\x80\x80\x80\x80\x80\x80\x80\x80\x02"},
	{"an eleventh group", "\x85\x80\x80\x80\x80\x80\x80\x80\x80\x80\x01"},
	{"very many groups", "\x85" + strings.Repeat("\x80", 1000) + "\x01"},
	{"very many groups, the last nought", "\x85" + strings.Repeat("\x80", 1000) + "\x00"},
	{"very many groups, and no more", strings.Repeat("\x80", 1000)},
}

var crcs = []struct {
	s   string
	sum int
}{
	{"", 0},
	{"\x00", 0xd202ef8d},
	{"\xff", 0xff000000},
	{"a", 0xe8b7be43},
	{"abc", 0x352441c2},
	{"123456789", 0xcbf43926},
	{"\x00\x00\x00\x00", 0x2144df1c},
	{"\xff\xff\xff\xff", 0xffffffff},
	{"The quick brown fox jumps over the lazy dog", 0x414fa339},
}

var frameBytes = []struct{ why, body, frame string }{
	{"no byte", "", "\x00\x00\x00\x00\x00"},
	{"a byte", "a", "\x01a\x43\xbe\xb7\xe8"},
	{"a byte that is nought", "\x00", "\x01\x00\x8d\xef\x02\xd2"},
	{"a Crc of ones", "\xff\xff\xff\xff", "\x04\xff\xff\xff\xff\xff\xff\xff\xff"},
	{"nine bytes", "123456789", "\x09123456789\x26\x39\xf4\xcb"},
	{"bytes that are a frame", "\x01a\x43\xbe\xb7\xe8", "\x06\x01a\x43\xbe\xb7\xe8" + wantSum("\x01a\x43\xbe\xb7\xe8")},
	{"all of one group", strings.Repeat("x", 127), "\x7f" + strings.Repeat("x", 127) + wantSum(strings.Repeat("x", 127))},
	{"two groups", strings.Repeat("x", 128), "\x80\x01" + strings.Repeat("x", 128) + wantSum(strings.Repeat("x", 128))},
	{"three groups", strings.Repeat("x", 16384), "\x80\x80\x01" + strings.Repeat("x", 16384) + wantSum(strings.Repeat("x", 16384))},
}

func wantNum(n int) string {
	if n < 0 {
		n = 0
	}
	if n > greatestNum {
		n = greatestNum
	}
	return string(binary.AppendUvarint(nil, uint64(n)))
}

func wantText(s string) string { return wantNum(len(s)) + s }

func wantSum(s string) string {
	return string(binary.LittleEndian.AppendUint32(nil, crc32.ChecksumIEEE([]byte(s))))
}

func wantFrame(body string) string { return wantText(body) + wantSum(body) }

// wantGetNum takes what it reads for right where it would be written so.
func wantGetNum(b string, at int) (int, int, bool) {
	if at < 0 || at > len(b) {
		return 0, 0, false
	}
	n, size := binary.Uvarint([]byte(b[at:]))
	if size < 1 || n > greatestNum || wantNum(int(n)) != b[at:at+size] {
		return 0, 0, false
	}
	return int(n), at + size, true
}

func wantGetText(b string, at int) (string, int, bool) {
	n, from, ok := wantGetNum(b, at)
	if !ok || n > len(b)-from {
		return "", 0, false
	}
	return b[from : from+n], from + n, true
}

func wantUnframe(b string, at int) (string, int, bool) {
	body, end, ok := wantGetText(b, at)
	if !ok || !strings.HasPrefix(b[end:], wantSum(body)) {
		return "", at, false
	}
	return body, end + 4, true
}

func checkGets(t *testing.T, b []byte, at int) {
	t.Helper()
	n, next, ok := impl.GetNum(b, at)
	if wantN, wantNext, wantOk := wantGetNum(string(b), at); n != wantN || next != wantNext || ok != wantOk {
		t.Errorf("GetNum(%.40x, %d) = %d, %d, %v; want %d, %d, %v", b, at, n, next, ok, wantN, wantNext, wantOk)
	}
	s, next, ok := impl.GetText(b, at)
	if wantS, wantNext, wantOk := wantGetText(string(b), at); s != wantS || next != wantNext || ok != wantOk {
		t.Errorf("GetText(%.40x, %d) = %.40x, %d, %v; want %.40x, %d, %v", b, at, s, next, ok, wantS, wantNext, wantOk)
	}
	body, next, ok := impl.Unframe(b, at)
	if wantBody, wantNext, wantOk := wantUnframe(string(b), at); string(body) != wantBody || next != wantNext || ok != wantOk {
		t.Errorf("Unframe(%.40x, %d) = %.40x, %d, %v; want %.40x, %d, %v", b, at, body, next, ok, wantBody, wantNext, wantOk)
	}
}

func checkAllPlaces(t *testing.T, b []byte) {
	t.Helper()
	for at := -2; at <= len(b)+2; at++ {
		checkGets(t, b, at)
	}
	for _, at := range farPlaces {
		checkGets(t, b, at)
	}
}

var farPlaces = []int{math.MinInt, math.MinInt + 1, -1 << 32, -128, 1 << 32, math.MaxInt - 5, math.MaxInt - 1, math.MaxInt}

// besides are what may stand ahead of and behind what is put.
var besides = []struct{ ahead, behind string }{
	{"", ""},
	{"\x09", ""},
	{"", "\x80"},
	{"\x80", "\x00"},
	{"\x80\x80", "\xff\xff\xff\xff\xff\xff"},
	{"\x00\x00\x00", "\x00\x00\x00\x00\x00"},
	{"some bytes ", " and some more"},
}

func checkNum(t *testing.T, n int) {
	t.Helper()
	want := wantNum(n)
	for _, x := range besides {
		b := impl.PutNum([]byte(x.ahead), n)
		if string(b) != x.ahead+want {
			t.Errorf("PutNum(%x, %d) = %x; want %x", x.ahead, n, b, x.ahead+want)
			return
		}
		got, next, ok := impl.GetNum(append(b, x.behind...), len(x.ahead))
		if got != min(max(n, 0), greatestNum) || next != len(x.ahead)+len(want) || !ok {
			t.Errorf("GetNum(%x%x, %d) = %d, %d, %v; want what was put, %d", b, x.behind, len(x.ahead), got, next, ok, n)
		}
	}
}

func TestPutNum(t *testing.T) {
	for _, x := range numBytes {
		if b := impl.PutNum(nil, x.n); string(b) != x.b {
			t.Errorf("PutNum(nil, %d) = %x; want %x", x.n, b, x.b)
		}
		if b := impl.PutNum([]byte("a\x80"), x.n); string(b) != "a\x80"+x.b {
			t.Errorf("PutNum(6180, %d) = %x; want 6180%x", x.n, b, x.b)
		}
		if n, next, ok := impl.GetNum([]byte(x.b), 0); n != x.n || next != len(x.b) || !ok {
			t.Errorf("GetNum(%x, 0) = %d, %d, %v; want %d, %d, true", x.b, n, next, ok, x.n, len(x.b))
		}
		checkNum(t, x.n)
	}
}

func TestPutNumTakesTheNearer(t *testing.T) {
	for _, x := range nearerNums {
		if got, want := impl.PutNum([]byte{7}, x.n), impl.PutNum([]byte{7}, x.near); !bytes.Equal(got, want) {
			t.Errorf("%s: PutNum(07, %d) = %x; want that of %d, %x", x.why, x.n, got, x.near, want)
		}
		checkNum(t, x.n)
	}
}

func TestNumsComeBack(t *testing.T) {
	for n := -300; n < 40000; n++ {
		checkNum(t, n)
	}
	for bit := range 63 {
		for near := -3; near <= 3; near++ {
			checkNum(t, 1<<bit+near)
			checkNum(t, -(1<<bit + near))
		}
	}
	for near := -300; near <= 300; near++ {
		checkNum(t, greatestNum+near)
	}
	turn := rand.New(rand.NewSource(161))
	for range 20000 {
		checkNum(t, turn.Intn(1<<(1+turn.Intn(31))))
	}
}

func TestNoNum(t *testing.T) {
	for _, x := range noNumBytes {
		for _, ahead := range []string{"", "\x00", "\x80\x80", "some"} {
			b := []byte(ahead + x.b)
			if n, next, ok := impl.GetNum(b, len(ahead)); n != 0 || next != 0 || ok {
				t.Errorf("%s: GetNum(%.40x, %d) = %d, %d, %v; want 0, 0, false", x.why, b, len(ahead), n, next, ok)
			}
			if s, next, ok := impl.GetText(b, len(ahead)); s != "" || next != 0 || ok {
				t.Errorf("%s: GetText(%.40x, %d) = %x, %d, %v; want nothing, 0, false", x.why, b, len(ahead), s, next, ok)
			}
			if body, next, ok := impl.Unframe(b, len(ahead)); len(body) != 0 || next != len(ahead) || ok {
				t.Errorf("%s: Unframe(%.40x, %d) = %x, %d, %v; want nothing, %d, false", x.why, b, len(ahead), body, next, ok, len(ahead))
			}
			checkAllPlaces(t, b)
		}
	}
}

func TestNumsThatEndEarly(t *testing.T) {
	for _, x := range numBytes {
		for _, ahead := range []string{"", "\x05", "\xff\xff"} {
			whole := []byte(ahead + x.b)
			for end := range len(whole) {
				if end < len(ahead) {
					continue
				}
				// What is lacking lies in the room behind, where nobody looks.
				if n, next, ok := impl.GetNum(whole[:end], len(ahead)); n != 0 || next != 0 || ok {
					t.Errorf("GetNum(%x, %d) = %d, %d, %v; want 0, 0, false: %d ends early", whole[:end], len(ahead), n, next, ok, x.n)
				}
			}
		}
	}
}

func TestGetsOfPlacesOutside(t *testing.T) {
	for _, s := range []string{"", "\x00", "a", "\x00\x00\x00\x00\x00", "\x01a", wantFrame("abc"), wantFrame(allBytes())} {
		b := []byte(s)
		for _, at := range slices.Concat([]int{-3, -2, -1, len(b), len(b) + 1, len(b) + 2, 2*len(b) + 9}, farPlaces) {
			if n, next, ok := impl.GetNum(b, at); n != 0 || next != 0 || ok {
				t.Errorf("GetNum(%.40x, %d) = %d, %d, %v; want 0, 0, false", b, at, n, next, ok)
			}
			if s, next, ok := impl.GetText(b, at); s != "" || next != 0 || ok {
				t.Errorf("GetText(%.40x, %d) = %x, %d, %v; want nothing, 0, false", b, at, s, next, ok)
			}
			if body, next, ok := impl.Unframe(b, at); len(body) != 0 || next != at || ok {
				t.Errorf("Unframe(%.40x, %d) = %x, %d, %v; want nothing, the place itself, false", b, at, body, next, ok)
			}
		}
		checkAllPlaces(t, b)
	}
	if n, next, ok := impl.GetNum(nil, 0); n != 0 || next != 0 || ok {
		t.Errorf("GetNum(nil, 0) = %d, %d, %v; want 0, 0, false", n, next, ok)
	}
}

func TestGetsOfAllSmallBytes(t *testing.T) {
	eachText("\x00\x01\x03\x7f\x80\xff", 6, func(s string) {
		checkGets(t, []byte(s), 0)
		checkGets(t, []byte(s), 1)
	})
	eachText("\x00\x01\x05\x80", 5, func(s string) { checkAllPlaces(t, []byte(s)) })
	for a := range 256 {
		for b := range 256 {
			checkGets(t, []byte{byte(a), byte(b)}, 0)
			checkGets(t, []byte{0xff, 0x80, 0xff, byte(a), byte(b), 1}, 0)
		}
	}
}

func TestGetsOfSomeBytes(t *testing.T) {
	turn := rand.New(rand.NewSource(162))
	for range 20000 {
		b := make([]byte, turn.Intn(30))
		for i := range b {
			b[i] = byte(turn.Intn(256))
			if turn.Intn(2) == 0 {
				b[i] = byte(turn.Intn(5))
			}
		}
		checkAllPlaces(t, b)
	}
}

func someTexts() []string {
	l := []string{"", "abc", "\x00", "\x80", "\xff", "\x00\x00\x00\x00", "a\x00b", "über", "\n\r\t ", allBytes(), allBytes() + allBytes()}
	for c := range 256 {
		l = append(l, oneByte(c))
	}
	for _, many := range []int{2, 63, 64, 126, 127, 128, 129, 255, 256, 300, 16383, 16384, 16385, 40000} {
		l = append(l, strings.Repeat("x", many), strings.Repeat("\x00", many), strings.Repeat(allBytes(), many/256+1)[:many])
	}
	return l
}

func checkText(t *testing.T, s string) {
	t.Helper()
	want := wantText(s)
	for _, x := range besides {
		b := impl.PutText([]byte(x.ahead), s)
		if string(b) != x.ahead+want {
			t.Errorf("PutText(%x, %.40x) = %.40x; want %.40x", x.ahead, s, b, x.ahead+want)
			return
		}
		got, next, ok := impl.GetText(append(b, x.behind...), len(x.ahead))
		if got != s || next != len(x.ahead)+len(want) || !ok {
			t.Errorf("GetText(%.40x.., %d) = %.40x, %d, %v; want what was put, %.40x", b, len(x.ahead), got, next, ok, s)
		}
	}
}

func TestPutText(t *testing.T) {
	for _, x := range []struct{ ahead, s, want string }{
		{"", "", "\x00"},
		{"", "a", "\x01a"},
		{"", "\x00", "\x01\x00"},
		{"", "abc", "\x03abc"},
		{"", "über", "\x05\xc3\xbcber"},
		{"\x01", "abc", "\x01\x03abc"},
		{"ab", "", "ab\x00"},
		{"", strings.Repeat("y", 127), "\x7f" + strings.Repeat("y", 127)},
		{"z", strings.Repeat("y", 128), "z\x80\x01" + strings.Repeat("y", 128)},
	} {
		if b := impl.PutText([]byte(x.ahead), x.s); string(b) != x.want {
			t.Errorf("PutText(%x, %.40x) = %.40x; want %.40x", x.ahead, x.s, b, x.want)
		}
		if s, next, ok := impl.GetText([]byte(x.want), len(x.ahead)); s != x.s || next != len(x.want) || !ok {
			t.Errorf("GetText(%.40x, %d) = %.40x, %d, %v; want %.40x, %d, true", x.want, len(x.ahead), s, next, ok, x.s, len(x.want))
		}
	}
	if b := impl.PutText(nil, "a"); string(b) != "\x01a" {
		t.Errorf("PutText(nil, 61) = %x; want 0161", b)
	}
}

func TestTextsComeBack(t *testing.T) {
	for _, s := range someTexts() {
		checkText(t, s)
	}
	eachText("\x00\x01a\x80", 5, func(s string) { checkText(t, s) })
}

func TestTextsThatAreNotThereWhole(t *testing.T) {
	for _, s := range []string{"", "a", "abc", "\x00", strings.Repeat("x", 127), strings.Repeat("x", 128), allBytes()} {
		for _, ahead := range []string{"", "\x05", "\x80\x80"} {
			whole := []byte(ahead + wantText(s))
			for end := len(ahead); end < len(whole); end++ {
				if got, next, ok := impl.GetText(whole[:end], len(ahead)); got != "" || next != 0 || ok {
					t.Errorf("GetText(%.40x, %d) = %.40x, %d, %v; want nothing, 0, false: %d of %d bytes", whole[:end], len(ahead), got, next, ok, end, len(whole))
				}
			}
		}
	}
	for _, n := range []int{1, 2, 127, 128, 16384, greatestNum - 1, greatestNum} {
		b := []byte(wantNum(n))
		if s, next, ok := impl.GetText(b, 0); s != "" || next != 0 || ok {
			t.Errorf("GetText(%x, 0) = %x, %d, %v; want nothing, 0, false: the number stands alone", b, s, next, ok)
		}
		if body, next, ok := impl.Unframe(b, 0); len(body) != 0 || next != 0 || ok {
			t.Errorf("Unframe(%x, 0) = %x, %d, %v; want nothing, 0, false: the number stands alone", b, body, next, ok)
		}
	}
}

func TestCrc(t *testing.T) {
	for _, x := range crcs {
		if sum := impl.Crc([]byte(x.s)); sum != x.sum {
			t.Errorf("Crc(%x) = %x; want %x", x.s, sum, x.sum)
		}
	}
	if sum := impl.Crc(nil); sum != 0 {
		t.Errorf("Crc(nil) = %x; want 0", sum)
	}
	for _, s := range someTexts() {
		checkCrc(t, s)
	}
	eachText("\x00\x01\x80\xff", 6, func(s string) { checkCrc(t, s) })
	for a := range 256 {
		for b := range 256 {
			checkCrc(t, oneByte(a)+oneByte(b))
		}
	}
}

func checkCrc(t *testing.T, s string) {
	t.Helper()
	if sum, want := impl.Crc([]byte(s)), int(crc32.ChecksumIEEE([]byte(s))); sum != want {
		t.Errorf("Crc(%.40x) = %x; want %x", s, sum, want)
	}
}

func checkFrame(t *testing.T, body string) {
	t.Helper()
	want := wantFrame(body)
	frame := impl.Frame([]byte(body))
	if string(frame) != want {
		t.Errorf("Frame(%.40x) = %.60x; want %.60x", body, frame, want)
		return
	}
	for _, x := range besides {
		b := []byte(x.ahead + want + x.behind)
		got, next, ok := impl.Unframe(b, len(x.ahead))
		if string(got) != body || next != len(x.ahead)+len(want) || !ok {
			t.Errorf("Unframe(%.40x, %d) = %.40x, %d, %v; want the body, %.40x, and %d", b, len(x.ahead), got, next, ok, body, len(x.ahead)+len(want))
		}
	}
}

func TestFrame(t *testing.T) {
	for _, x := range frameBytes {
		if frame := impl.Frame([]byte(x.body)); string(frame) != x.frame {
			t.Errorf("%s: Frame(%.40x) = %.60x; want %.60x", x.why, x.body, frame, x.frame)
		}
		if body, next, ok := impl.Unframe([]byte(x.frame), 0); string(body) != x.body || next != len(x.frame) || !ok {
			t.Errorf("%s: Unframe(%.60x, 0) = %.40x, %d, %v; want %.40x, %d, true", x.why, x.frame, body, next, ok, x.body, len(x.frame))
		}
	}
	if frame := impl.Frame(nil); string(frame) != "\x00\x00\x00\x00\x00" {
		t.Errorf("Frame(nil) = %x; want 0000000000", frame)
	}
}

func TestBodiesComeBack(t *testing.T) {
	for _, body := range someTexts() {
		checkFrame(t, body)
	}
	eachText("\x00\x01a\xff", 5, func(body string) { checkFrame(t, body) })
	for a := range 256 {
		for b := range 256 {
			checkFrame(t, oneByte(a)+oneByte(b))
		}
	}
	turn := rand.New(rand.NewSource(163))
	for range 3000 {
		body := make([]byte, turn.Intn(400))
		turn.Read(body)
		checkFrame(t, string(body))
	}
}

// framedBodies are such that no bit of the number makes another frame of what
// stands there (TestNumbersTurnedIntoAnotherFrame has such).
func framedBodies() []string {
	l := []string{"", "abc", "123456789", "http://a.com/", "über", allBytes(), "\x00\x00\x00", "\x80\x80\x80\x80\x80\x00", "\xff\xff\xff\xff"}
	for c := range 256 {
		l = append(l, oneByte(c))
	}
	turn := rand.New(rand.NewSource(164))
	for _, many := range []int{2, 3, 4, 5, 6, 7, 8, 9, 16, 31, 32, 33, 64, 126, 127, 128, 129, 192, 255, 256, 257} {
		body := make([]byte, many)
		turn.Read(body)
		l = append(l, string(body), strings.Repeat("x", many), strings.Repeat("\xff", many))
	}
	return l
}

// framedIn is what stands ahead of a frame, and behind it: nothing, a few
// bytes, and a frame.
var framedIn = []struct{ ahead, behind string }{
	{"", ""},
	{"\x80\x00", "\x00\x00\x00\x00\x00\x00\x00"},
	{wantFrame("ahead"), wantFrame("behind")},
}

func checkTold(t *testing.T, why string, b []byte, at int) {
	t.Helper()
	if body, next, ok := impl.Unframe(b, at); len(body) != 0 || next != at || ok {
		t.Errorf("%s: Unframe(%.60x, %d) = %.40x, %d, %v; want nothing, %d, false", why, b, at, body, next, ok, at)
	}
}

func TestTurnedBitsAreTold(t *testing.T) {
	for _, body := range framedBodies() {
		for _, x := range framedIn {
			at := len(x.ahead)
			b := slices.Concat([]byte(x.ahead), impl.Frame([]byte(body)), []byte(x.behind))
			for bit := 8 * at; bit < 8*(len(b)-len(x.behind)); bit++ {
				b[bit/8] ^= 1 << (bit % 8)
				checkTold(t, "a bit turned", b, at)
				b[bit/8] ^= 1 << (bit % 8)
			}
			if got, next, ok := impl.Unframe(b, at); string(got) != body || next != len(b)-len(x.behind) || !ok {
				t.Errorf("Unframe(%.60x, %d) = %.40x, %d, %v; want the body, %.40x", b, at, got, next, ok, body)
			}
		}
	}
}

// The Crc tells of one bit of the body or of the Crc itself, and of several
// that stand within four bytes, whatever the body is.
func TestTurnedBodiesAreTold(t *testing.T) {
	bodies := []string{"\x00\x00\x00\x00", strings.Repeat("\x00", 8), strings.Repeat("\x00", 64), strings.Repeat("\x00", 128)}
	turn := rand.New(rand.NewSource(165))
	for range 300 {
		body := make([]byte, turn.Intn(100))
		turn.Read(body)
		bodies = append(bodies, string(body))
	}
	for _, body := range bodies {
		frame := impl.Frame([]byte(body))
		from := len(wantNum(len(body)))
		for bit := 8 * from; bit < 8*len(frame); bit++ {
			frame[bit/8] ^= 1 << (bit % 8)
			checkTold(t, "a bit turned", frame, 0)
			frame[bit/8] ^= 1 << (bit % 8)
		}
		for i := from; i+4 <= len(frame); i++ {
			turned := slices.Clone(frame)
			more := binary.LittleEndian.Uint32(turned[i:]) ^ (turn.Uint32() | 1)
			binary.LittleEndian.PutUint32(turned[i:], more)
			checkTold(t, "several bits turned", turned, 0)
		}
		for i := from; i < len(frame); i++ {
			turned := slices.Clone(frame)
			turned[i] += byte(1 + turn.Intn(255))
			checkTold(t, "another byte", turned, 0)
		}
	}
}

func TestTurnedBitsOfManyBytes(t *testing.T) {
	turn := rand.New(rand.NewSource(166))
	for _, many := range []int{16383, 16384, 16385, 40000} {
		body := make([]byte, many)
		turn.Read(body)
		frame := impl.Frame(body)
		bits := []int{}
		for bit := range 8 * 4 {
			bits = append(bits, bit, 8*len(frame)-1-bit, turn.Intn(8*len(frame)))
		}
		for _, bit := range bits {
			frame[bit/8] ^= 1 << (bit % 8)
			checkTold(t, "a bit turned", frame, 0)
			frame[bit/8] ^= 1 << (bit % 8)
		}
	}
}

// Where the body itself holds what a shorter frame needs, a bit of the number
// makes that frame: by the document's words it is there whole.
func TestNumbersTurnedIntoAnotherFrame(t *testing.T) {
	for _, x := range []struct {
		why, body string
		number    byte
		inner     string
	}{
		{"four noughts are the Crc of no byte", "\x00\x00\x00\x00", 0, ""},
		{"a byte, and its Crc", "a\x43\xbe\xb7\xe8", 1, "a"},
	} {
		b := impl.Frame([]byte(x.body))
		b[0] = x.number
		if body, next, ok := impl.Unframe(b, 0); string(body) != x.inner || next != len(wantFrame(x.inner)) || !ok {
			t.Errorf("%s: Unframe(%x, 0) = %x, %d, %v; want %x, %d, true", x.why, b, body, next, ok, x.inner, len(wantFrame(x.inner)))
		}
		checkAllPlaces(t, b)
	}
}

func TestBytesThatAreLackingAreTold(t *testing.T) {
	bodies := append(framedBodies(), "\x00\x00\x00\x00", "a\x43\xbe\xb7\xe8", strings.Repeat("\x00", 128))
	for _, body := range bodies {
		for _, ahead := range []string{"", "\x80\x00", wantFrame("ahead")} {
			whole := append([]byte(ahead), impl.Frame([]byte(body))...)
			for end := len(ahead); end < len(whole); end++ {
				checkTold(t, "bytes lacking at the end", whole[:end], len(ahead))
				checkTold(t, "bytes lacking at the end, of all there is", slices.Clone(whole[:end]), len(ahead))
			}
		}
	}
	for _, body := range framedBodies() {
		whole := impl.Frame([]byte(body))
		for end := 1; end < len(whole); end++ {
			b := slices.Concat(whole[:end], impl.Frame([]byte("behind")), impl.Frame([]byte("more")))
			// What stands behind may happen to begin with what is lacking.
			if !bytes.HasPrefix(b, whole) {
				checkTold(t, "bytes lacking, and others behind", b, 0)
			}
		}
	}
}

func TestNoFrame(t *testing.T) {
	for _, x := range []struct{ why, b string }{
		{"nothing", ""},
		{"a number alone", "\x00"},
		{"no byte, and a Crc that lacks one", "\x00\x00\x00\x00"},
		{"no byte, and another Crc", "\x00\x00\x00\x00\x01"},
		{"no byte, and a Crc of ones", "\x00\xff\xff\xff\xff"},
		{"no body", "\x01"},
		{"no Crc", "\x01a"},
		{"a Crc of a byte", "\x01a\x43"},
		{"a Crc of three bytes", "\x01a\x43\xbe\xb7"},
		{"a Crc with the highest first", "\x01a\xe8\xb7\xbe\x43"},
		{"a Crc whose bits are all turned", "\x01a\xbc\x41\x48\x17"},
		{"a Crc of nought", "\x01a\x00\x00\x00\x00"},
		{"a Crc of another body", "\x01b\x43\xbe\xb7\xe8"},
		{"a Crc of the number, too", "\x01a" + wantSum("\x01a")},
		{"a Crc of no byte behind one", "\x01\x00\x00\x00\x00\x00"},
		{"a Crc ahead of the body", "\x01\x43\xbe\xb7\xe8a"},
		{"a number in more groups than it needs", "\x81\x00a\x43\xbe\xb7\xe8"},
		{"a number that is too great by one", "\x02a\x43\xbe\xb7\xe8"},
		{"a number that is too small by one", "\x00a\x43\xbe\xb7\xe8"},
		{"a number that takes all", "\x05a\x43\xbe\xb7\xe8"},
		{"the greatest number", wantNum(greatestNum) + "a\x43\xbe\xb7\xe8"},
		{"a number above the greatest", "\x81\x94\xeb\xdc\x03a\x43\xbe\xb7\xe8"},
		{"a number of too many groups", "\x81\x80\x80\x80\x80\x80\x80\x80\x80\x80\x01a\x43\xbe\xb7\xe8"},
		{"a number that ends early", "\x81"},
	} {
		for _, ahead := range []string{"", "\x07", "\x01a\x43\xbe\xb7\xe8"} {
			b := []byte(ahead + x.b)
			checkTold(t, x.why, b, len(ahead))
			checkAllPlaces(t, b)
		}
	}
}

// asked is one of several things that stand one behind the other.
type asked struct {
	kind int
	n    int
	s    string
}

func someAsked(turn *rand.Rand) asked {
	s := make([]byte, turn.Intn(1+turn.Intn(200)))
	turn.Read(s)
	return asked{kind: turn.Intn(3), n: turn.Intn(1 << (1 + turn.Intn(30))), s: string(s)}
}

func (a asked) put(b []byte) []byte {
	switch a.kind {
	case 0:
		return impl.PutNum(b, a.n)
	case 1:
		return impl.PutText(b, a.s)
	}
	return append(b, impl.Frame([]byte(a.s))...)
}

func (a asked) want() string {
	return []string{wantNum(min(a.n, greatestNum)), wantText(a.s), wantFrame(a.s)}[a.kind]
}

func (a asked) check(t *testing.T, b []byte, at int) int {
	t.Helper()
	n, s, next, ok := a.n, a.s, 0, false
	switch a.kind {
	case 0:
		n, next, ok = impl.GetNum(b, at)
	case 1:
		s, next, ok = impl.GetText(b, at)
	default:
		var body []byte
		body, next, ok = impl.Unframe(b, at)
		s = string(body)
	}
	if n != min(a.n, greatestNum) && a.kind == 0 || s != a.s || !ok {
		t.Errorf("at %d of %.40x: %d, %.40x, %v; want %d, %.40x, true", at, b, n, s, ok, a.n, a.s)
	}
	return next
}

func TestOneBehindTheOther(t *testing.T) {
	turn := rand.New(rand.NewSource(167))
	for range 2000 {
		l, b, want, places := []asked{}, []byte{}, "", []int{}
		for range turn.Intn(12) {
			one := someAsked(turn)
			places = append(places, len(want))
			l, b, want = append(l, one), one.put(b), want+one.want()
		}
		if string(b) != want {
			t.Fatalf("%d things put: %.80x; want %.80x", len(l), b, want)
		}
		at := 0
		for i, one := range l {
			if at != places[i] {
				t.Fatalf("thing %d of %.80x: place %d; want %d", i, b, at, places[i])
			}
			at = one.check(t, b, at)
		}
		if at != len(b) {
			t.Errorf("%.80x: the place behind all is %d; want %d", b, at, len(b))
		}
	}
}

// roomyBytes are these, with room behind them, and all of that.
func roomyBytes(s string) (b, room []byte) {
	room = append([]byte(s), "behind\x00\x00\x00\x00\x00\x00\x00\x00\x00\x00\x00\x00"...)
	return room[:len(s)], room
}

func TestBytesLeaveTheirArgument(t *testing.T) {
	for _, s := range []string{"", "\x00", "\x80", "some", wantText("abc"), wantFrame("abc"), wantFrame(""), wantFrame(allBytes()), "\x03ab", "\x80\x00"} {
		b, room := roomyBytes(s)
		was := slices.Clone(room)
		for _, n := range []int{-1, 0, 127, 128, greatestNum, math.MaxInt} {
			impl.PutNum(b, n)
		}
		for _, text := range []string{"", "a", "abc", allBytes()} {
			impl.PutText(b, text)
		}
		for at := -1; at <= len(room)+1; at++ {
			impl.GetNum(b, at)
			impl.GetText(b, at)
			impl.Unframe(b, at)
		}
		impl.Crc(b)
		impl.Frame(b)
		if !bytes.Equal(room, was) {
			t.Errorf("of %.40x, and the room behind, has become %.40x", was, room)
		}
	}
}

func TestBytesOfTheRoomBehindAreNotRead(t *testing.T) {
	for _, s := range []string{"\x05abcde" + "\x00\x00\x00\x00", wantFrame("abc"), wantFrame(""), wantFrame(strings.Repeat("x", 300)), "\x80\x80\x80\x01"} {
		room := []byte(s)
		for end := range len(room) {
			checkAllPlaces(t, room[:end])
		}
		if sum, want := impl.Crc(room[:1]), impl.Crc([]byte{room[0]}); sum != want {
			t.Errorf("Crc(%x) = %x; want %x", room[:1], sum, want)
		}
		if frame, want := impl.Frame(room[:1]), impl.Frame([]byte{room[0]}); !bytes.Equal(frame, want) {
			t.Errorf("Frame(%x) = %x; want %x", room[:1], frame, want)
		}
	}
}

func TestBytesAnsweredAreNew(t *testing.T) {
	for _, s := range []string{"", "a", "abc", allBytes(), strings.Repeat("x", 5000)} {
		for _, ahead := range []string{"", "\x01", "ahead"} {
			b, room := roomyBytes(ahead)
			if put := impl.PutNum(b, 300); overlap(put, room) {
				t.Errorf("PutNum(%x, 300) shares memory with what it was given", b)
			}
			if put := impl.PutText(b, s); overlap(put, room) {
				t.Errorf("PutText(%x, %.40x) shares memory with what it was given", b, s)
			}
			if put := impl.PutText(b, s); len(s) > 0 && overlap(put, unsafe.Slice(unsafe.StringData(s), len(s))) {
				t.Errorf("PutText(%x, %.40x) shares memory with the text", b, s)
			}
			b, room = roomyBytes(ahead + wantText(s))
			if text, _, ok := impl.GetText(b, len(ahead)); !ok || lies(text, unsafe.String(&room[0], len(room))) {
				t.Errorf("GetText(%.40x, %d) shares memory with what it was given, or fails", b, len(ahead))
			}
			b, room = roomyBytes(ahead + wantFrame(s))
			if body, _, ok := impl.Unframe(b, len(ahead)); !ok || overlap(body, room) {
				t.Errorf("Unframe(%.40x, %d) shares memory with what it was given, or fails", b, len(ahead))
			}
			if body, _, ok := impl.Unframe(b[:len(b)-1], len(ahead)); ok || overlap(body, room) {
				t.Errorf("Unframe(%.40x, %d) shares memory with what it was given, or does not fail", b[:len(b)-1], len(ahead))
			}
			b, room = roomyBytes(s)
			if frame := impl.Frame(b); overlap(frame, room) {
				t.Errorf("Frame(%.40x) shares memory with what it was given", b)
			}
		}
	}
}

// What is answered, and all the room behind it, is the caller's to write into.
func TestBytesKeepNothing(t *testing.T) {
	spoil := func(b []byte) {
		for i := range b[:cap(b)] {
			b[:cap(b)][i] = 0xee
		}
	}
	frame := []byte(wantFrame("abc"))
	for range 3 {
		put, text, framed := impl.PutNum(nil, 300), impl.PutText(nil, "abc"), impl.Frame([]byte("abc"))
		body, _, _ := impl.Unframe(frame, 0)
		none, _, _ := impl.Unframe(frame, 1)
		empty, _, _ := impl.Unframe([]byte(wantFrame("")), 0)
		if string(put) != wantNum(300) || string(text) != wantText("abc") || string(framed) != wantFrame("abc") || string(body) != "abc" || len(none)+len(empty) != 0 {
			t.Fatalf("%x, %x, %x, %x, %x, %x", put, text, framed, body, none, empty)
		}
		for _, b := range [][]byte{put, text, framed, body, none, empty} {
			spoil(b)
		}
	}
	if string(frame) != wantFrame("abc") {
		t.Errorf("the frame has become %x", frame)
	}
}

func TestBytesOfVeryMany(t *testing.T) {
	many := strings.Repeat(allBytes(), 20000)
	soon(t, "a text of five million bytes", func() bool {
		s, next, ok := impl.GetText(impl.PutText([]byte("ahead"), many), 5)
		return ok && s == many && next == 5+4+len(many)
	}, true)
	soon(t, "a body of five million bytes", func() bool {
		body, next, ok := impl.Unframe(impl.Frame([]byte(many)), 0)
		return ok && string(body) == many && next == 4+len(many)+4
	}, true)
	groups := bytes.Repeat([]byte{0x80}, 1000000)
	soon(t, "a million groups, from each place on", func() bool {
		some := false
		for at := range groups {
			_, _, ok := impl.GetNum(groups, at)
			some = some || ok
		}
		return some
	}, false)
	greatest := []byte(strings.Repeat(wantNum(greatestNum), 100000))
	soon(t, "bodies that are far from there whole", func() bool {
		some := false
		for at := 0; at < len(greatest); at += 5 {
			_, _, ok := impl.Unframe(greatest, at)
			some = some || ok
		}
		return some
	}, false)
}
