package write_test

import (
	"fmt"
	"math"
	"slices"
	"strings"
	"testing"
	"unsafe"

	"packtrain/api"
	"packtrain/plain"
	"packtrain/write"
)

// id is an id with nothing wrong.
var id = api.Id{Time: 7, Replica: 3}

// of is a write of that id, under a key.
func of(kind int, value string, n int) api.Write {
	return api.Write{Id: id, Kind: kind, Key: "k", Value: value, N: n}
}

// x is a text of so many bytes.
func x(n int) string { return strings.Repeat("x", n) }

// number is a number as 1.1 has it, spelled out: seven bits a byte, the lowest first.
func number(n uint64) string {
	if n < 128 {
		return string([]byte{byte(n)})
	}
	return string([]byte{byte(n%128 + 128)}) + number(n/128)
}

// signed is a number with its sign as 1.2 has it, spelled out.
func signed(n int) string {
	if n < 0 {
		return number(2*uint64(-n) - 1)
	}
	return number(2 * uint64(n))
}

// text is a text as 2.1 has it, spelled out.
func text(s string) string { return number(uint64(len(s))) + s }

// Kinds, ids, lengths of keys and values, and numbers around all bounds.
var (
	kinds  = []int{math.MinInt, -1, 0, api.Put, api.Drop, api.Add, api.Insert, 5, math.MaxInt}
	values = []int{0, 1, 127, 128, 299, 300, 301, 2000, 2001}
	lens   = []int{0, 1, 39, 40, 41, 300}
	ns     = []int{math.MinInt, math.MinInt + 1, -1<<50 - 1, -1 << 50, -1<<50 + 1, -1001, -1000, -1, 0, 1, 63, 64, 999, 1000, 1001, 1<<50 - 1, 1 << 50, 1<<50 + 1, math.MaxInt}
	ids    = []struct {
		id    api.Id
		right bool
	}{
		{id, true},
		{api.Id{Time: 1, Replica: 0}, true},
		{api.Id{Time: 1 << 40, Replica: 200}, true},
		{api.Id{}, false},
		{api.Id{Time: 0, Replica: 3}, false},
		{api.Id{Time: 1<<40 + 1, Replica: 3}, false},
		{api.Id{Time: 7, Replica: -1}, false},
		{api.Id{Time: 7, Replica: 201}, false},
	}
)

// spelled is what 9.1 tells of a write, of an id that is right, or isn't; the bounds stand here as the numbers that they are.
func spelled(w api.Write, idRight bool) api.Errno {
	least, most := 0, 0
	switch w.Kind {
	case api.Add:
		least, most = -1125899906842624, 1125899906842624
	case api.Insert:
		most = 1000
	}
	if !slices.Contains([]int{1, 2, 3, 4}, w.Kind) {
		return api.ErrArg
	}
	if !idRight {
		return api.ErrRange
	}
	if len(w.Key) > 40 || len(w.Value) > 300 {
		return api.ErrLimit
	}
	if len(w.Value) > 0 && (w.Kind == 2 || w.Kind == 3) {
		return api.ErrForm
	}
	if w.N != 0 && (w.Kind == 1 || w.Kind == 2) {
		return api.ErrForm
	}
	if w.N < least || w.N > most {
		return api.ErrRange
	}
	return api.OK
}

// spelledTail is what 9.2 tells of a right write.
func spelledTail(w api.Write) string {
	return map[int]string{
		api.Put:    text(w.Value),
		api.Drop:   "",
		api.Add:    signed(w.N),
		api.Insert: number(uint64(w.N)) + text(w.Value),
	}[w.Kind]
}

// checkRight asks for what is wrong with a write: an Errno without a place.
func checkRight(t *testing.T, w api.Write, want api.Errno) {
	t.Helper()
	if e, place := plain.Place(write.Right(w)); e != want || place != -1 {
		t.Errorf("Right(%.99q) = error %d at %d; want %d", fmt.Sprint(w), e, place, want)
	}
}

// checkTail asks for a write's Tail, or an error without a place, and no text with it.
func checkTail(t *testing.T, w api.Write, want string, wrong api.Errno) {
	t.Helper()
	s, err := write.Tail(w)
	if e, place := plain.Place(err); s != want || e != wrong || place != -1 {
		t.Errorf("Tail(%.99q) = %.40q, error %d at %d; want %.40q, error %d", fmt.Sprint(w), s, e, place, want, wrong)
	}
}

// checkFill asks for a write, and how many bytes its Tail has.
func checkFill(t *testing.T, w api.Write, s string, want api.Write, size int) {
	t.Helper()
	got, n, err := write.Fill(w, s)
	if got != want || n != size || err != nil {
		t.Errorf("Fill(%.99q, %.40q) = %.99q, %d, %v; want %.99q, %d", fmt.Sprint(w), s, fmt.Sprint(got), n, err, fmt.Sprint(want), size)
	}
}

// checkUnfilled asks for an error without a place, and nothing with it.
func checkUnfilled(t *testing.T, name string, w api.Write, s string, want api.Errno) {
	t.Helper()
	got, n, err := write.Fill(w, s)
	if e, place := plain.Place(err); e != want || place != -1 || got != (api.Write{}) || n != 0 {
		t.Errorf("%s: Fill(%.99q, %.40q) = %.99q, %d, error %d at %d; want error %d", name, fmt.Sprint(w), s, fmt.Sprint(got), n, e, place, want)
	}
}

// goods are writes with nothing wrong, and their Tails.
func goods() []good {
	return []good{
		{of(api.Put, "v", 0), "\x01v"},
		{of(api.Put, "", 0), "\x00"},
		{of(api.Put, "\xff\x00\n", 0), "\x03\xff\x00\n"},
		{of(api.Put, x(127), 0), "\x7f" + x(127)},
		{of(api.Put, x(128), 0), "\x80\x01" + x(128)},
		{of(api.Put, x(300), 0), "\xac\x02" + x(300)},
		{of(api.Drop, "", 0), ""},
		{of(api.Add, "", 0), "\x00"},
		{of(api.Add, "", -1), "\x01"},
		{of(api.Add, "", 1), "\x02"},
		{of(api.Add, "", 63), "\x7e"},
		{of(api.Add, "", -64), "\x7f"},
		{of(api.Add, "", 64), "\x80\x01"},
		{of(api.Add, "", 1<<50), "\x80\x80\x80\x80\x80\x80\x80\x04"},
		{of(api.Add, "", -1<<50), "\xff\xff\xff\xff\xff\xff\xff\x03"},
		{of(api.Insert, "", 0), "\x00\x00"},
		{of(api.Insert, "x", 2), "\x02\x01x"},
		{of(api.Insert, "\x80", 127), "\x7f\x01\x80"},
		{of(api.Insert, "", 128), "\x80\x01\x00"},
		{of(api.Insert, x(300), 1000), "\xe8\x07\xac\x02" + x(300)},
		{api.Write{Id: api.Id{Time: 1}, Kind: api.Put}, "\x00"},
		{api.Write{Id: api.Id{Time: 1 << 40, Replica: 200}, Kind: api.Drop, Key: x(40)}, ""},
		{api.Write{Id: id, Kind: api.Insert, Key: "\xff\x00", Value: "v", N: 1}, "\x01\x01v"},
	}
}

// good is a write with nothing wrong, and its Tail.
type good struct {
	w    api.Write
	tail string
}

// Promises 9.1, 9.2, P5: writes with nothing wrong, their Tails, and the other way round.
func TestKnownWrites(t *testing.T) {
	for _, g := range goods() {
		checkRight(t, g.w, api.OK)
		checkTail(t, g.w, g.tail, api.OK)
		checkFill(t, g.w, g.tail, g.w, len(g.tail))
	}
}

// Promises 9.1, P1, P3: what is wrong; where several things are, what is told first.
func TestRightTellsWhatIsWrong(t *testing.T) {
	with := func(change func(*api.Write)) api.Write {
		w := of(api.Put, "v", 0)
		change(&w)
		return w
	}
	for _, c := range []struct {
		w    api.Write
		want api.Errno
	}{
		{api.Write{}, api.ErrArg},
		{of(0, "", 0), api.ErrArg},
		{of(5, "", 0), api.ErrArg},
		{of(-1, "", 0), api.ErrArg},
		{of(math.MaxInt, "", 0), api.ErrArg},
		{of(math.MinInt, "", 0), api.ErrArg},
		{with(func(w *api.Write) { w.Id.Time = 0 }), api.ErrRange},
		{with(func(w *api.Write) { w.Id.Time = 1<<40 + 1 }), api.ErrRange},
		{with(func(w *api.Write) { w.Id.Replica = -1 }), api.ErrRange},
		{with(func(w *api.Write) { w.Id.Replica = 201 }), api.ErrRange},
		{with(func(w *api.Write) { w.Key = x(41) }), api.ErrLimit},
		{with(func(w *api.Write) { w.Value = x(301) }), api.ErrLimit},
		{of(api.Insert, x(301), 0), api.ErrLimit},
		{of(api.Drop, "v", 0), api.ErrForm},
		{of(api.Add, "v", 0), api.ErrForm},
		{of(api.Add, "v", 1), api.ErrForm},
		{of(api.Put, "v", 1), api.ErrForm},
		{of(api.Put, "", -1), api.ErrForm},
		{of(api.Drop, "", 1), api.ErrForm},
		{of(api.Drop, "", -1), api.ErrForm},
		{of(api.Add, "", 1<<50+1), api.ErrRange},
		{of(api.Add, "", -1<<50-1), api.ErrRange},
		{of(api.Insert, "v", -1), api.ErrRange},
		{of(api.Insert, "v", 1001), api.ErrRange},

		{api.Write{Kind: 5, Key: x(41)}, api.ErrArg},
		{api.Write{Id: id, Value: "v", N: 1}, api.ErrArg},
		{api.Write{Kind: api.Put, Key: x(41)}, api.ErrRange},
		{api.Write{Kind: api.Drop, Value: "v"}, api.ErrRange},
		{api.Write{Id: id, Kind: api.Drop, Value: x(301)}, api.ErrLimit},
		{api.Write{Id: id, Kind: api.Drop, Key: x(41), N: 1}, api.ErrLimit},
		{api.Write{Id: id, Kind: api.Insert, Key: x(41), N: -1}, api.ErrLimit},
		{of(api.Add, "v", 1<<50+1), api.ErrForm},
	} {
		checkRight(t, c.w, c.want)
		checkTail(t, c.w, "", c.want)
	}
}

// Promises 9.1, 9.2, P1, P2: all kinds, ids, keys, values and numbers around the bounds, each with each.
func TestRightAndTailOfAllEdges(t *testing.T) {
	right := 0
	for _, kind := range kinds {
		for _, i := range ids {
			for _, n := range ns {
				for _, key := range lens {
					for _, value := range values {
						w := api.Write{Id: i.id, Kind: kind, Key: x(key), Value: x(value), N: n}
						want, tail := spelled(w, i.right), ""
						if want == api.OK {
							right++
							tail = spelledTail(w)
						}
						checkRight(t, w, want)
						checkTail(t, w, tail, want)
					}
				}
			}
		}
	}
	// Of three ids and four keys: six values of Put, one Drop, 14 numbers of Add, six numbers with six values of Insert.
	if want := 3 * 4 * (6 + 1 + 14 + 6*6); right != want {
		t.Errorf("%d writes are right; want %d", right, want)
	}
}

// Promise 9.2: what Tail writes Fill reads, whatever stands behind, and whatever Value and N were.
func TestFillReadsWhatTailWrites(t *testing.T) {
	for _, g := range goods() {
		for _, rest := range []string{"", "\x00", "\x80", "\xff\xff", "rest"} {
			for _, value := range []string{"", "other", x(301), x(2001)} {
				for _, n := range []int{0, 7, -1, math.MinInt, math.MaxInt} {
					w := g.w
					w.Value, w.N = value, n
					checkFill(t, w, g.tail+rest, g.w, len(g.tail))
				}
			}
		}
	}
}

// Promises 9.2, P5: each number and value of the bounds that fits.
func TestFillOfAllEdges(t *testing.T) {
	for _, kind := range []int{api.Put, api.Drop, api.Add, api.Insert} {
		for _, n := range ns {
			for _, value := range values {
				w := of(kind, x(value), n)
				if spelled(w, true) != api.OK {
					continue
				}
				s := spelledTail(w)
				checkFill(t, of(kind, "other", 7), s+"more", w, len(s))
			}
		}
	}
}

// Promises 9.2, P2: no beginning of a Tail is one.
func TestFillMissesTheEnd(t *testing.T) {
	for _, g := range goods() {
		for i := range len(g.tail) {
			checkUnfilled(t, "a beginning", g.w, g.tail[:i], api.ErrMissing)
		}
	}
}

// badNumbers begin no number of 1.1, and what is told of them.
var badNumbers = []struct {
	s    string
	want api.Errno
}{
	{"", api.ErrMissing},
	{"\x80", api.ErrMissing},
	{"\xff\xff", api.ErrMissing},
	{"\x80\x00", api.ErrForm},
	{"\x81\x00\x01v", api.ErrForm},
	{strings.Repeat("\xff", 9) + "\x02", api.ErrLimit},
	{strings.Repeat("\x80", 9) + "\x80", api.ErrLimit},
}

// Promises 9.2, P2, P3: errors of reading, of each kind as they come.
func TestFillTellsWhatCannotBeRead(t *testing.T) {
	greatest := strings.Repeat("\xff", 9) + "\x01" // 2^64 - 1
	for _, b := range badNumbers {
		checkUnfilled(t, "a length", of(api.Put, "", 0), b.s, b.want)
		checkUnfilled(t, "a number", of(api.Add, "", 0), b.s, b.want)
		checkUnfilled(t, "a place", of(api.Insert, "", 0), b.s, b.want)
		checkUnfilled(t, "a length behind a place", of(api.Insert, "", 0), "\x02"+b.s, b.want)
		checkUnfilled(t, "a length behind the last place", of(api.Insert, "", 0), "\xe8\x07"+b.s, b.want)
		checkUnfilled(t, "a length behind a wrong place", of(api.Insert, "", 0), "\xe9\x07"+b.s, api.ErrRange)
	}
	for _, c := range []struct {
		name, s string
		kind    int
		want    api.Errno
	}{
		{"a value without an end", "\x02v", api.Put, api.ErrMissing},
		{"a value of more bytes than a text has", "\xd1\x0f" + x(2001), api.Put, api.ErrLimit},
		{"the greatest length", greatest, api.Put, api.ErrLimit},
		{"a value without an end, and too long", "\xad\x02" + x(300), api.Put, api.ErrMissing},
		{"a place above the most", "\xe9\x07\x00", api.Insert, api.ErrRange},
		{"a place above the most, and nothing behind", "\xe9\x07", api.Insert, api.ErrRange},
		{"the greatest place", greatest + "\x00", api.Insert, api.ErrRange},
		{"a place above what an int has", strings.Repeat("\x80", 9) + "\x01\x00", api.Insert, api.ErrRange},
		{"a place without a value", "\x05", api.Insert, api.ErrMissing},
		{"a value behind a place without an end", "\x05\x02v", api.Insert, api.ErrMissing},
		{"a value behind a place of more bytes than a text has", "\x05\xd1\x0f" + x(2001), api.Insert, api.ErrLimit},
	} {
		checkUnfilled(t, c.name, of(c.kind, "", 0), c.s, c.want)
	}
}

// Promises 9.2, 9.1, P2, P3: what is read is not right.
func TestFillTellsWhatIsNotRight(t *testing.T) {
	greatest := strings.Repeat("\xff", 9) + "\x01" // 2^64 - 1
	for _, c := range []struct {
		name, s string
		kind    int
		want    api.Errno
	}{
		{"a value above the most", text(x(301)), api.Put, api.ErrLimit},
		{"a value as long as a text may be", text(x(2000)), api.Put, api.ErrLimit},
		{"a value above the most, behind a place", "\x01" + text(x(301)), api.Insert, api.ErrLimit},
		{"a number above the most", signed(1<<50 + 1), api.Add, api.ErrRange},
		{"a number below the least", signed(-1<<50 - 1), api.Add, api.ErrRange},
		{"the greatest number", signed(math.MaxInt), api.Add, api.ErrRange},
		{"the least number", greatest, api.Add, api.ErrRange},
	} {
		checkUnfilled(t, c.name, of(c.kind, "", 0), c.s, c.want)
	}
	for _, g := range goods() {
		late, long := g.w, g.w
		late.Id.Time = 1<<40 + 1
		long.Key = x(41)
		both := long
		both.Id.Replica = 201
		checkUnfilled(t, "no id", late, g.tail, api.ErrRange)
		checkUnfilled(t, "a key above the most", long, g.tail, api.ErrLimit)
		checkUnfilled(t, "neither", both, g.tail, api.ErrRange)
	}
}

// Promises 9.2, P3: what cannot be read is told ahead of what is not right.
func TestFillReadsFirst(t *testing.T) {
	for _, b := range badNumbers {
		for _, kind := range []int{api.Put, api.Add, api.Insert} {
			checkUnfilled(t, "no id", api.Write{Kind: kind}, b.s, b.want)
			checkUnfilled(t, "a key above the most", api.Write{Id: id, Kind: kind, Key: x(41)}, b.s, b.want)
		}
	}
	checkUnfilled(t, "no id, and a place above the most", api.Write{Kind: api.Insert, Key: x(41)}, "\xe9\x07\x00", api.ErrRange)
	checkUnfilled(t, "a key above the most, and a place, too", api.Write{Id: id, Kind: api.Insert, Key: x(41)}, "\xe9\x07\x00", api.ErrRange)
	checkUnfilled(t, "no id, and a text above the most", api.Write{Kind: api.Put}, text(x(2001)), api.ErrLimit)
	checkUnfilled(t, "no id, and a value above the most", api.Write{Kind: api.Put}, text(x(301)), api.ErrRange)
}

// Promises 9.2, 9.1: of any other kind nothing is read, whatever stands there.
func TestFillOfOtherKinds(t *testing.T) {
	for _, b := range badNumbers {
		checkFill(t, of(api.Drop, "other", 7), b.s, of(api.Drop, "", 0), 0)
		for _, kind := range []int{math.MinInt, -1, 0, 5, 255, math.MaxInt} {
			checkUnfilled(t, "no kind", of(kind, "", 0), b.s, api.ErrArg)
			checkUnfilled(t, "no kind, no id", api.Write{Kind: kind}, b.s, api.ErrArg)
		}
	}
	checkFill(t, of(api.Drop, "", 0), "\x01v", of(api.Drop, "", 0), 0)
	checkUnfilled(t, "no id", api.Write{Kind: api.Drop}, "", api.ErrRange)
	checkUnfilled(t, "a key above the most", api.Write{Id: id, Kind: api.Drop, Key: x(41)}, "", api.ErrLimit)
}

// Promises 9.2, P1: whatever stands there, a Tail that is read is written so, and with what is not read nothing is told.
func TestFillKnowsOneWayAlone(t *testing.T) {
	for c := range 1 << 16 {
		s := string([]byte{byte(c % 256), byte(c / 256)}) + "\x05" + x(310)
		for _, kind := range []int{api.Put, api.Drop, api.Add, api.Insert} {
			w, n, err := write.Fill(of(kind, "other", 7), s)
			if err != nil {
				if w != (api.Write{}) || n != 0 {
					t.Errorf("Fill of kind %d, %x.. = %.99q, %d with an error", kind, s[:2], fmt.Sprint(w), n)
				}
				continue
			}
			if w.Id != id || w.Kind != kind || w.Key != "k" {
				t.Errorf("Fill of kind %d, %x.. = %.99q", kind, s[:2], fmt.Sprint(w))
			}
			checkTail(t, w, s[:n], api.OK)
		}
	}
}

// Promise P4: what comes out is fresh memory.
func TestAnswersAreFresh(t *testing.T) {
	bytes := []byte("k\x01v")
	key, s := unsafe.String(&bytes[0], 1), unsafe.String(&bytes[1], 2)
	put, _, _ := write.Fill(api.Write{Id: id, Kind: api.Put, Key: key}, s)
	tail, _ := write.Tail(api.Write{Id: id, Kind: api.Put, Value: s})
	clear(bytes)
	if want := of(api.Put, "v", 0); put != want {
		t.Errorf("Fill's write is %q now", fmt.Sprint(put))
	}
	if tail != "\x02\x01v" {
		t.Errorf("Tail's text is %q now", tail)
	}
}
