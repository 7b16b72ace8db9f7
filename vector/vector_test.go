package vector_test

import (
	"fmt"
	"math"
	"slices"
	"strings"
	"testing"

	"packtrain/api"
	"packtrain/plain"
	"packtrain/vector"
)

// at is an entry.
func at(replica, time int) api.Entry { return api.Entry{Replica: replica, Time: time} }

// many are so many entries of replicas from one on, each so far from the one ahead.
func many(n, first, step int) []api.Entry {
	var l []api.Entry
	for i := range n {
		l = append(l, at(first+i*step, i+1))
	}
	return l
}

// listed are the entries of a map from replicas to times, by rising replicas.
func listed(times map[int]int) []api.Entry {
	var l []api.Entry
	for replica, time := range times {
		l = append(l, at(replica, time))
	}
	slices.SortFunc(l, func(a, b api.Entry) int { return a.Replica - b.Replica })
	return l
}

// mixed are entries with nothing wrong, of replicas below a bound, the same ones for the same seed.
func mixed(seed, most, bound int) []api.Entry {
	x := uint64(seed)
	next := func(n int) int {
		x = x*6364136223846793005 + 1442695040888963407
		return int(x >> 33 % uint64(n))
	}
	times := map[int]int{}
	for range next(most + 1) {
		replica := next(bound)
		times[replica] = 1 + next(1<<next(31))
	}
	return listed(times)
}

// number is a number as 1.1 has it, spelled out: seven bits a byte, the lowest first.
func number(n int) string {
	if n < 128 {
		return string([]byte{byte(n)})
	}
	return string([]byte{byte(n%128 + 128)}) + number(n/128)
}

// numbers are numbers, one behind the other.
func numbers(l ...int) string {
	s := ""
	for _, n := range l {
		s += number(n)
	}
	return s
}

// spelled is a vector as 6.2 has it, found by asking each replica there may be whether it is in it.
func spelled(l []api.Entry) string {
	var times [api.MaxReplica + 2]int
	for _, e := range l {
		times[e.Replica] = e.Time
	}
	runs, gap, s := 0, 0, ""
	for r := 0; r <= api.MaxReplica; {
		size, all := 0, ""
		for ; times[r+size] > 0; size++ {
			all += number(times[r+size])
		}
		if size == 0 {
			r, gap = r+1, gap+1
			continue
		}
		s += numbers(gap, size-1) + all
		// The replica behind a run isn't in it: it is the one that no gap counts.
		runs, gap, r = runs+1, 0, r+size+1
	}
	return number(runs) + s
}

// checkRight asks for what is wrong with a vector: an Errno, and its place (-1: none).
func checkRight(t *testing.T, name string, l []api.Entry, want api.Errno, place int) {
	t.Helper()
	if e, p := plain.Place(vector.Right(l)); e != want || p != place {
		t.Errorf("%s: Right = error %d at %d; want %d at %d", name, e, p, want, place)
	}
}

// goods are vectors with nothing wrong.
func goods() [][]api.Entry {
	return [][]api.Entry{
		nil,
		{},
		{at(0, 1)},
		{at(200, 1)},
		{at(0, 1<<40)},
		{at(200, 1<<40)},
		{at(1, 5), at(2, 9), at(7, 1)},
		{at(0, 9), at(1, 1)},
		{at(0, 1), at(200, 1)},
		{at(199, 3), at(200, 3)},
		many(16, 0, 1),
		many(16, 185, 1),
		many(16, 0, 2),
		many(16, 5, 13),
		many(15, 100, 3),
	}
}

// bads are vectors with something wrong: what, and where.
func bads() []bad {
	least, most := math.MinInt, math.MaxInt
	return []bad{
		{"a replica below 0", []api.Entry{at(-1, 1)}, api.ErrRange, 0},
		{"a replica above the most", []api.Entry{at(201, 1)}, api.ErrRange, 0},
		{"the least replica", []api.Entry{at(least, 1)}, api.ErrRange, 0},
		{"the greatest replica", []api.Entry{at(most, 1)}, api.ErrRange, 0},
		{"no time", []api.Entry{at(0, 0)}, api.ErrRange, 0},
		{"a time below 0", []api.Entry{at(0, -1)}, api.ErrRange, 0},
		{"a time above the most", []api.Entry{at(0, 1<<40+1)}, api.ErrRange, 0},
		{"the least time", []api.Entry{at(200, least)}, api.ErrRange, 0},
		{"the greatest time", []api.Entry{at(200, most)}, api.ErrRange, 0},
		{"both are wrong", []api.Entry{at(-1, 0)}, api.ErrRange, 0},
		{"an empty entry", []api.Entry{{}}, api.ErrRange, 0},
		{"a later replica below 0", []api.Entry{at(3, 1), at(-1, 1)}, api.ErrRange, 1},
		{"a later replica above the most", []api.Entry{at(3, 1), at(5, 1), at(201, 1)}, api.ErrRange, 2},
		{"a later time of 0", []api.Entry{at(3, 1), at(5, 0), at(7, 1)}, api.ErrRange, 1},
		{"the same replica", []api.Entry{at(2, 1), at(2, 1)}, api.ErrOrder, 1},
		{"the same replica, later", []api.Entry{at(2, 1), at(2, 7)}, api.ErrOrder, 1},
		{"replica 0 twice", []api.Entry{at(0, 1), at(0, 2)}, api.ErrOrder, 1},
		{"the greatest replica twice", []api.Entry{at(200, 1), at(200, 2)}, api.ErrOrder, 1},
		{"a lower replica", []api.Entry{at(2, 1), at(1, 1)}, api.ErrOrder, 1},
		{"a much lower replica", []api.Entry{at(1, 1), at(200, 1), at(0, 1)}, api.ErrOrder, 2},
		{"lower than the one ahead alone", []api.Entry{at(1, 1), at(5, 1), at(3, 1)}, api.ErrOrder, 2},
		{"the last of sixteen", append(many(15, 0, 1), at(14, 1)), api.ErrOrder, 15},
		{"the last of sixteen has no time", append(many(15, 0, 1), at(15, 0)), api.ErrRange, 15},
		{"of one entry range ahead of order", []api.Entry{at(2, 1), at(2, 0)}, api.ErrRange, 1},
		{"of one entry range ahead of order, below 0", []api.Entry{at(2, 1), at(-2, 1)}, api.ErrRange, 1},
		{"the first entry: order", []api.Entry{at(2, 1), at(1, 1), at(3, 0)}, api.ErrOrder, 1},
		{"the first entry: range", []api.Entry{at(2, 1), at(3, 0), at(3, 1)}, api.ErrRange, 1},
		{"the first of all", []api.Entry{at(201, 1), at(1, 1), at(1, 0)}, api.ErrRange, 0},
		{"seventeen", many(17, 0, 1), api.ErrLimit, -1},
		{"seventeen, far from each other", many(17, 0, 12), api.ErrLimit, -1},
		{"seventeen, of which each is wrong", make([]api.Entry, 17), api.ErrLimit, -1},
		{"seventeen, the first one wrong", append([]api.Entry{at(-1, 0)}, many(16, 0, 1)...), api.ErrLimit, -1},
		{"seventeen, not in order", slices.Repeat([]api.Entry{at(1, 1)}, 17), api.ErrLimit, -1},
		{"very many", make([]api.Entry, 1<<16), api.ErrLimit, -1},
	}
}

// bad is a vector with something wrong, and where (-1: nowhere).
type bad struct {
	name  string
	l     []api.Entry
	want  api.Errno
	place int
}

// Promise 6.1: nothing is wrong.
func TestRightOfGoodVectors(t *testing.T) {
	for _, l := range goods() {
		checkRight(t, fmt.Sprint(l), l, api.OK, -1)
	}
	for seed := range 300 {
		l := mixed(seed, api.MaxEntries, api.MaxReplica+1)
		checkRight(t, fmt.Sprint(l), l, api.OK, -1)
	}
}

// Promises 6.1, P1, P3: what is wrong, and with which entry.
func TestRightOfWrongVectors(t *testing.T) {
	for _, x := range bads() {
		checkRight(t, x.name, x.l, x.want, x.place)
	}
}

// Promise 6.1: two entries of each replica and time around the bounds.
func TestRightOfTwoEntries(t *testing.T) {
	replicas, times := []int{-1, 0, 1, 100, 199, 200, 201}, []int{0, 1, 2, 1 << 40, 1<<40 + 1}
	fits := func(e api.Entry) bool {
		return 0 <= e.Replica && e.Replica <= 200 && 1 <= e.Time && e.Time <= 1<<40
	}
	for _, r := range replicas {
		for _, q := range replicas {
			for _, time := range times {
				a, b := at(r, time), at(q, 1)
				want, place := api.OK, -1
				switch {
				case !fits(a):
					want, place = api.ErrRange, 0
				case !fits(b):
					want, place = api.ErrRange, 1
				case q <= r:
					want, place = api.ErrOrder, 1
				}
				checkRight(t, fmt.Sprint(a, b), []api.Entry{a, b}, want, place)
			}
		}
	}
}

// Promises 6.1, P1: Of has the first entry of a replica, of any list.
func TestOf(t *testing.T) {
	l := []api.Entry{at(1, 5), at(2, 9), at(7, 1)}
	twice := []api.Entry{at(3, 4), at(1, 6), at(3, 8), at(1, 2), at(0, 0), at(0, 7)}
	odd := []api.Entry{at(-1, 3), at(201, -4), at(math.MinInt, math.MaxInt), at(math.MaxInt, math.MinInt)}
	for _, x := range []struct {
		l             []api.Entry
		replica, want int
	}{
		{l, 1, 5}, {l, 2, 9}, {l, 7, 1}, {l, 0, 0}, {l, 3, 0}, {l, 8, 0}, {l, -1, 0}, {l, math.MaxInt, 0}, {l, 5, 0}, {l, 9, 0},
		{nil, 0, 0}, {nil, 1, 0}, {[]api.Entry{}, 0, 0}, {[]api.Entry{{}}, 0, 0},
		{[]api.Entry{at(0, 1<<40)}, 0, 1 << 40}, {[]api.Entry{at(200, 6)}, 200, 6},
		{twice, 3, 4}, {twice, 1, 6}, {twice, 0, 0}, {twice, 2, 0},
		{odd, -1, 3}, {odd, 201, -4}, {odd, math.MinInt, math.MaxInt}, {odd, math.MaxInt, math.MinInt}, {odd, 1, 0},
		{many(40, 0, 1), 39, 40}, {many(40, 0, 1), 40, 0},
	} {
		if n := vector.Of(x.l, x.replica); n != x.want {
			t.Errorf("Of(%v, %d) = %d; want %d", x.l, x.replica, n, x.want)
		}
	}
}

// checkJoin asks for what two vectors are together.
func checkJoin(t *testing.T, a, b, want []api.Entry) {
	t.Helper()
	l, err := vector.Join(a, b)
	if !slices.Equal(l, want) || err != nil {
		t.Errorf("Join(%v, %v) = %v, %v; want %v", a, b, l, err, want)
	}
}

// checkUnjoined asks for an error without a place, and for no vector with it.
func checkUnjoined(t *testing.T, name string, a, b []api.Entry, want api.Errno) {
	t.Helper()
	l, err := vector.Join(a, b)
	if e, place := plain.Place(err); e != want || place != -1 || len(l) != 0 {
		t.Errorf("%s: Join = %v, error %d at %d; want error %d without a place", name, l, e, place, want)
	}
}

// Promise 6.1: both together, the greater time of each replica.
func TestJoinOfKnownVectors(t *testing.T) {
	l := []api.Entry{at(1, 5), at(2, 9), at(7, 1)}
	for _, x := range []struct{ a, b, want []api.Entry }{
		{nil, nil, nil},
		{nil, []api.Entry{}, nil},
		{l, nil, l},
		{l, l, l},
		{l, []api.Entry{at(2, 8)}, l},
		{l, []api.Entry{at(2, 9)}, l},
		{l, []api.Entry{at(2, 10)}, []api.Entry{at(1, 5), at(2, 10), at(7, 1)}},
		{l, []api.Entry{at(0, 3), at(1, 7)}, []api.Entry{at(0, 3), at(1, 7), at(2, 9), at(7, 1)}},
		{l, []api.Entry{at(3, 1), at(8, 1)}, []api.Entry{at(1, 5), at(2, 9), at(3, 1), at(7, 1), at(8, 1)}},
		{[]api.Entry{at(0, 1)}, []api.Entry{at(200, 1)}, []api.Entry{at(0, 1), at(200, 1)}},
		{[]api.Entry{at(0, 1), at(200, 1<<40)}, []api.Entry{at(0, 1<<40), at(200, 1)}, []api.Entry{at(0, 1<<40), at(200, 1<<40)}},
		{many(16, 0, 1), many(16, 0, 1), many(16, 0, 1)},
		{many(16, 0, 1)[:8], many(16, 0, 1)[8:], many(16, 0, 1)},
		{many(16, 0, 1)[:9], many(16, 0, 1)[7:], many(16, 0, 1)},
		{many(16, 185, 1), nil, many(16, 185, 1)},
	} {
		checkJoin(t, x.a, x.b, x.want)
		checkJoin(t, x.b, x.a, x.want)
	}
}

// joined are two vectors together, by a map.
func joined(a, b []api.Entry) []api.Entry {
	times := map[int]int{}
	for _, e := range append(slices.Clone(a), b...) {
		times[e.Replica] = max(times[e.Replica], e.Time)
	}
	return listed(times)
}

// Promises 6.1, P2, P3: many vectors together, if these have no more than MaxEntries.
func TestJoinOfManyVectors(t *testing.T) {
	beyond := 0
	for seed := range 2000 {
		bound := 1 + seed%(api.MaxReplica+1)
		a, b := mixed(seed, api.MaxEntries, bound), mixed(seed+5000, api.MaxEntries, bound)
		want := joined(a, b)
		if len(want) > api.MaxEntries {
			beyond++
			checkUnjoined(t, fmt.Sprint(a, b), a, b, api.ErrLimit)
			continue
		}
		checkJoin(t, a, b, want)
	}
	if beyond < 100 || beyond > 1900 {
		t.Errorf("%d of 2000 have too many entries: hardly a test", beyond)
	}
}

// Promise 6.1: sixteen are not too many together, seventeen are.
func TestJoinOfTooMany(t *testing.T) {
	a := many(16, 10, 2)
	checkJoin(t, a, a[3:9], a)
	for _, b := range [][]api.Entry{{at(0, 1)}, {at(11, 1)}, {at(200, 1)}, {at(10, 1), at(13, 1)}, many(16, 10, 1), many(16, 11, 2)} {
		checkUnjoined(t, "too many", a, b, api.ErrLimit)
		checkUnjoined(t, "too many", b, a, api.ErrLimit)
	}
	checkUnjoined(t, "eight and nine", many(8, 0, 2), many(9, 1, 2), api.ErrLimit)
	checkJoin(t, many(8, 0, 2), many(8, 100, 2), append(many(8, 0, 2), many(8, 100, 2)...))
}

// Promises 6.1, P2, P3: errors of the first one, then of the other one, bare, then that they are too many.
func TestJoinOfWrongVectors(t *testing.T) {
	for _, x := range bads() {
		for _, l := range [][]api.Entry{nil, {at(1, 5)}, many(16, 100, 2)} {
			checkUnjoined(t, x.name, x.l, l, x.want)
			checkUnjoined(t, x.name+", the other one", l, x.l, x.want)
		}
		for _, y := range bads() {
			checkUnjoined(t, x.name+", "+y.name, x.l, y.l, x.want)
		}
	}
}

// Promise 6.1: vectors joined in any way are the same.
func TestJoinInAnyWay(t *testing.T) {
	for seed := range 300 {
		a, b, c := mixed(seed, 9, 16), mixed(seed+1000, 9, 16), mixed(seed+2000, 9, 16)
		want := joined(joined(a, b), c)
		for _, l := range [][3][]api.Entry{{a, b, c}, {a, c, b}, {b, a, c}, {b, c, a}, {c, a, b}, {c, b, a}} {
			two, _ := vector.Join(l[0], l[1])
			checkJoin(t, two, l[2], want)
			checkJoin(t, l[2], two, want)
			checkJoin(t, want, l[0], want)
		}
	}
}

// checkCovers asks whether a vector knows what another one does.
func checkCovers(t *testing.T, a, b []api.Entry, want bool) {
	t.Helper()
	if vector.Covers(a, b) != want {
		t.Errorf("Covers(%v, %v) = %v", a, b, !want)
	}
}

// Promise 6.1: what covers what.
func TestCoversOfKnownVectors(t *testing.T) {
	l := []api.Entry{at(1, 5), at(2, 9), at(7, 1)}
	for _, x := range []struct {
		a, b       []api.Entry
		this, that bool // a covers b, b covers a
	}{
		{nil, nil, true, true},
		{nil, []api.Entry{}, true, true},
		{l, l, true, true},
		{l, nil, true, false},
		{l, l[:2], true, false},
		{l, l[1:2], true, false},
		{l, []api.Entry{at(2, 8)}, true, false},
		{l, []api.Entry{at(1, 5), at(2, 8), at(7, 1)}, true, false},
		{l, []api.Entry{at(1, 5), at(2, 10), at(7, 1)}, false, true},
		{l, []api.Entry{at(2, 10)}, false, false},
		{l, []api.Entry{at(1, 5), at(2, 9), at(7, 2)}, false, true},
		{l, []api.Entry{at(1, 6), at(2, 9), at(7, 1)}, false, true},
		{l, []api.Entry{at(3, 1)}, false, false},
		{l, []api.Entry{at(0, 1)}, false, false},
		{l, []api.Entry{at(200, 1)}, false, false},
		{[]api.Entry{at(0, 1<<40)}, []api.Entry{at(0, 1<<40-1)}, true, false},
		{many(16, 0, 1), many(16, 0, 1), true, true},
		{many(16, 0, 1), many(16, 0, 1)[15:], true, false},
	} {
		checkCovers(t, x.a, x.b, x.this)
		checkCovers(t, x.b, x.a, x.that)
	}
}

// Promise 6.1: of each three replicas' times, just those cover that are no less; what is joined covers both.
func TestCoversOfManyVectors(t *testing.T) {
	var all [][]api.Entry
	for n := range 4 * 4 * 4 {
		times := map[int]int{}
		for i, time := range []int{n % 4, n / 4 % 4, n / 16} {
			if time > 0 {
				times[5*i] = time
			}
		}
		all = append(all, listed(times))
	}
	for i, a := range all {
		for j, b := range all {
			less := i%4 < j%4 || i/4%4 < j/4%4 || i/16 < j/16
			checkCovers(t, a, b, !less)
			both, _ := vector.Join(a, b)
			checkCovers(t, both, a, true)
			checkCovers(t, both, b, true)
		}
	}
}

// Promise 6.1: a vector that isn't right covers nothing, and nothing covers it.
func TestCoversOfWrongVectors(t *testing.T) {
	for _, x := range bads() {
		for _, l := range [][]api.Entry{nil, {at(1, 5)}, many(16, 0, 1), x.l, slices.Clone(x.l)} {
			checkCovers(t, x.l, l, false)
			checkCovers(t, l, x.l, false)
		}
		// But for its error it would cover, or be covered.
		if len(x.l) > 1 {
			checkCovers(t, x.l, x.l[:1], false)
			checkCovers(t, x.l[:1], x.l, false)
		}
	}
}

// checkBoth asks for a vector as bytes, and for the vector that these begin with, whatever stands behind.
func checkBoth(t *testing.T, s string, l []api.Entry) {
	t.Helper()
	if w, err := vector.Write(l); w != s || err != nil {
		t.Errorf("Write(%v) = %x, %v; want %x", l, w, err, s)
	}
	for _, rest := range []string{"", "\x00", "\x01\x00\x00\x01", "\x80", "\xff\xff", "rest"} {
		r, n, err := vector.Read(s + rest)
		if !slices.Equal(r, l) || n != len(s) || err != nil {
			t.Errorf("Read(%x) = %v, %d, %v; want %v, %d", s+rest, r, n, err, l, len(s))
		}
	}
}

// Promise 6.2: vectors as bytes that may be looked at, both ways.
func TestKnownBytes(t *testing.T) {
	for _, x := range []struct {
		s string
		l []api.Entry
	}{
		{"\x00", nil},
		{"\x02\x01\x01\x05\x09\x03\x00\x01", []api.Entry{at(1, 5), at(2, 9), at(7, 1)}},
		{"\x01\x00\x00\x01", []api.Entry{at(0, 1)}},
		{"\x01\x00\x01\x01\x02", []api.Entry{at(0, 1), at(1, 2)}},
		{"\x01\x01\x00\x7f", []api.Entry{at(1, 127)}},
		{"\x01\x7f\x00\x80\x01", []api.Entry{at(127, 128)}},
		{"\x01\x80\x01\x00\xac\x02", []api.Entry{at(128, 300)}},
		{"\x01\xc8\x01\x00\x01", []api.Entry{at(200, 1)}},
		{"\x01\x00\x00\x80\x80\x80\x80\x80\x20", []api.Entry{at(0, 1<<40)}},
		{"\x02\x00\x00\x01\x00\x00\x01", []api.Entry{at(0, 1), at(2, 1)}},
		{"\x02\x00\x00\x01\x01\x00\x01", []api.Entry{at(0, 1), at(3, 1)}},
		{"\x02\x00\x00\x05\xc6\x01\x00\x06", []api.Entry{at(0, 5), at(200, 6)}},
		{"\x02\x00\x01\x05\x07\xc5\x01\x00\x06", []api.Entry{at(0, 5), at(1, 7), at(200, 6)}},
		{"\x01\xc7\x01\x01\x08\x07", []api.Entry{at(199, 8), at(200, 7)}},
		{"\x03\x04\x00\x01\x02\x01\x02\x03\x00\x00\x04", []api.Entry{at(4, 1), at(8, 2), at(9, 3), at(11, 4)}},
		{"\x01\x00\x0f\x01\x02\x03\x04\x05\x06\x07\x08\x09\x0a\x0b\x0c\x0d\x0e\x0f\x10", many(16, 0, 1)},
		{"\x01\xb9\x01\x0f\x01\x02\x03\x04\x05\x06\x07\x08\x09\x0a\x0b\x0c\x0d\x0e\x0f\x10", many(16, 185, 1)},
		{"\x10" + "\x00\x00\x01\x00\x00\x02\x00\x00\x03\x00\x00\x04\x00\x00\x05\x00\x00\x06\x00\x00\x07\x00\x00\x08\x00\x00\x09\x00\x00\x0a\x00\x00\x0b\x00\x00\x0c\x00\x00\x0d\x00\x00\x0e\x00\x00\x0f\x00\x00\x10", many(16, 0, 2)},
	} {
		checkBoth(t, x.s, x.l)
		if u := spelled(x.l); u != x.s {
			t.Errorf("the test spells %v as %x; want %x", x.l, u, x.s)
		}
	}
}

// Promise 6.2: all vectors of ten replicas, low and high ones; and mixed ones, both ways.
func TestManyVectorsBothWays(t *testing.T) {
	for n := range 1 << 10 {
		for _, first := range []int{0, 3, 123, 190, 191} {
			var l []api.Entry
			for i := range 10 {
				if n>>i&1 == 1 {
					l = append(l, at(first+i, 1+(n+i)<<(n%25)))
				}
			}
			checkBoth(t, spelled(l), l)
		}
	}
	for seed := range 500 {
		for _, bound := range []int{17, 40, api.MaxReplica + 1} {
			l := mixed(seed, api.MaxEntries, bound)
			checkBoth(t, spelled(l), l)
		}
	}
	for _, l := range goods() {
		checkBoth(t, spelled(l), l)
	}
}

// Promises 6.2, P2, P3: Right's errors, with the entry, are Write's; no bytes come with them.
func TestWriteOfWrongVectors(t *testing.T) {
	for _, x := range bads() {
		s, err := vector.Write(x.l)
		if e, place := plain.Place(err); e != x.want || place != x.place || s != "" {
			t.Errorf("%s: Write = %x, error %d at %d; want error %d at %d", x.name, s, e, place, x.want, x.place)
		}
	}
}

// checkUnread asks for an error of Read without a place, and for nothing with it.
func checkUnread(t *testing.T, name, s string, want api.Errno) {
	t.Helper()
	l, n, err := vector.Read(s)
	if e, place := plain.Place(err); e != want || place != -1 || len(l) != 0 || n != 0 {
		t.Errorf("%s: Read(%.60x) = %v, %d, error %d at %d; want error %d without a place", name, s, l, n, e, place, want)
	}
}

// Promise 6.2: no beginning of a written vector is one.
func TestReadMissesTheEnd(t *testing.T) {
	vectors := goods()
	for seed := range 100 {
		vectors = append(vectors, mixed(seed, api.MaxEntries, 1+2*seed))
	}
	for _, l := range vectors {
		s := spelled(l)
		for i := range s {
			checkUnread(t, "a beginning", s[:i], api.ErrMissing)
		}
	}
}

// begun are beginnings of vectors ahead of a number, the most that this may be, what makes a whole of the beginning and the most, and what is wrong with that.
var begun = []struct {
	name, s string
	most    int
	rest    string
	want    api.Errno
}{
	{"how many runs", "", api.MaxEntries, strings.Repeat("\x00\x00\x01", 16), api.OK},
	{"the first gap", "\x01", api.MaxReplica, "\x00\x01", api.OK},
	{"the first gap of two", "\x02", api.MaxReplica, "\x00\x01\x00\x00\x01", api.ErrRange},
	{"how many entries", "\x01\x05", api.MaxEntries, strings.Repeat("\x01", 17), api.ErrLimit},
	{"how many entries behind the greatest gap", "\x01\xc8\x01", api.MaxEntries, strings.Repeat("\x01", 17), api.ErrLimit},
	{"the first time", "\x01\x05\x00", api.MaxTime, "", api.OK},
	{"the first time of two", "\x01\x05\x01", api.MaxTime, "\x01", api.OK},
	{"the second time", "\x01\x05\x01\x01", api.MaxTime, "", api.OK},
	{"the last time of sixteen", "\x01\x05\x0f" + strings.Repeat("\x01", 15), api.MaxTime, "", api.OK},
	{"the last time of seventeen", "\x01\x05\x10" + strings.Repeat("\x01", 16), api.MaxTime, "", api.ErrLimit},
	{"the second gap", "\x02\x05\x00\x01", api.MaxReplica, "\x00\x01", api.ErrRange},
	{"the second gap behind the greatest", "\x02\xc8\x01\x00\x01", api.MaxReplica, "\x00\x01", api.ErrRange},
	{"how many entries of the second run", "\x02\x05\x00\x01\x00", api.MaxEntries, strings.Repeat("\x01", 17), api.ErrLimit},
	{"the time of the second run", "\x02\x05\x00\x01\x00\x00", api.MaxTime, "", api.OK},
	{"the sixteenth gap", "\x10" + strings.Repeat("\x00\x00\x01", 15), api.MaxReplica, "\x00\x01", api.ErrRange},
	{"the sixteenth time", "\x10" + strings.Repeat("\x00\x00\x01", 15) + "\x00\x00", api.MaxTime, "", api.OK},
}

// Promises 6.2, P2, P3: each number may be one that isn't written so, or above its most; what stands behind it is not asked.
func TestReadOfWrongNumbers(t *testing.T) {
	ones := strings.Repeat("\xff", 9)
	for _, x := range begun {
		for _, behind := range []string{"", "\x00", "\x01\x01\x01", "\x80", "\x80\x00"} {
			checkUnread(t, x.name+": one above the most", x.s+number(x.most+1)+behind, api.ErrRange)
			checkUnread(t, x.name+": 2 to the 48th", x.s+number(1<<48)+behind, api.ErrRange)
			checkUnread(t, x.name+": the greatest", x.s+number(math.MaxInt)+behind, api.ErrRange)
			checkUnread(t, x.name+": the greatest of 64 bits", x.s+ones+"\x01"+behind, api.ErrRange)
			checkUnread(t, x.name+": a nought on top", x.s+"\x80\x00"+behind, api.ErrForm)
			checkUnread(t, x.name+": a nought on top of too great a one", x.s+ones+"\x00"+behind, api.ErrForm)
			checkUnread(t, x.name+": above 64 bits", x.s+ones+"\x02"+behind, api.ErrLimit)
		}
		checkUnread(t, x.name+": nothing", x.s, api.ErrMissing)
		checkUnread(t, x.name+": it goes on", x.s+"\x80", api.ErrMissing)
	}
}

// Promise 6.2: each number may be its most; what Right says of that is told once all is read.
func TestReadOfTheMost(t *testing.T) {
	for _, x := range begun {
		s := x.s + number(x.most)
		for i := range x.rest {
			checkUnread(t, x.name+": nothing behind", s+x.rest[:i], api.ErrMissing)
			checkUnread(t, x.name+": a nought on top behind", s+x.rest[:i]+"\x80\x00", api.ErrForm)
		}
		s += x.rest
		if x.want != api.OK {
			checkUnread(t, x.name, s, x.want)
			checkUnread(t, x.name+", and more", s+"\x80\x00", x.want)
			continue
		}
		l, n, err := vector.Read(s + "\x80\x00")
		if spelled(l) != s || n != len(s) || err != nil {
			t.Errorf("%s: Read(%x) = %v, %d, %v", x.name, s, l, n, err)
		}
	}
}

// Promises 6.2, P3: Right's errors, bare.
func TestReadOfWrongVectors(t *testing.T) {
	for _, x := range []struct {
		name, s string
		want    api.Errno
	}{
		{"a time of 0", "\x01\x00\x00\x00", api.ErrRange},
		{"a second time of 0", "\x01\x00\x01\x01\x00", api.ErrRange},
		{"a time of 0 in the second run", "\x02\x00\x00\x01\x00\x00\x00", api.ErrRange},
		{"a time of 0 in the first of two runs", "\x02\x00\x00\x00\x00\x00\x01", api.ErrRange},
		{"replicas 200 and 201", "\x01\xc8\x01\x01\x01\x01", api.ErrRange},
		{"replicas 198 and 201", "\x02\xc6\x01\x00\x01\x01\x00\x01", api.ErrRange},
		{"replicas 0 and 201", "\x02\x00\x00\x01\xc7\x01\x00\x01", api.ErrRange},
		{"sixteen, of which the last is 201", "\x01\xba\x01\x0f" + strings.Repeat("\x01", 16), api.ErrRange},
		{"sixteen times of 0", "\x01\x00\x0f" + strings.Repeat("\x00", 16), api.ErrRange},
		{"sixteen runs, each as far behind as may be", "\x10" + strings.Repeat("\xc8\x01\x00\x01", 16), api.ErrRange},
		{"seventeen", "\x01\x00\x10" + strings.Repeat("\x01", 17), api.ErrLimit},
		{"seventeen times of 0", "\x01\x00\x10" + strings.Repeat("\x00", 17), api.ErrLimit},
		{"seventeen, of which the last is 201", "\x01\xb9\x01\x10" + strings.Repeat("\x01", 17), api.ErrLimit},
		{"sixteen and one", "\x02\x00\x0f" + strings.Repeat("\x01", 16) + "\x00\x00\x01", api.ErrLimit},
		{"sixteen and one, as far behind as may be", "\x02\xc8\x01\x0f" + strings.Repeat("\x01", 16) + "\xc8\x01\x00\x01", api.ErrLimit},
		{"eight and nine", "\x02\x00\x07" + strings.Repeat("\x01", 8) + "\x00\x08" + strings.Repeat("\x01", 9), api.ErrLimit},
		{"sixteen runs of two", "\x10" + strings.Repeat("\x00\x01\x01\x01", 16), api.ErrLimit},
		{"all that runs may have", "\x10" + strings.Repeat("\xc8\x01\x10"+strings.Repeat("\x00", 17), 16), api.ErrLimit},
	} {
		for _, behind := range []string{"", "\x00", "\x01", "\x80\x00"} {
			checkUnread(t, x.name, x.s+behind, x.want)
		}
	}
}

// Promises 6.2, P3: what is wrong with a number counts ahead of what Right finds wrong with any entry.
func TestReadTellsNumbersFirst(t *testing.T) {
	ones := strings.Repeat("\xff", 9)
	for _, s := range []string{
		"\x01\x05\x01\x00",                          // a time of 0, and another time is to come
		"\x01\x05\x10" + strings.Repeat("\x00", 16), // so many of these that one more is too many
		"\x02\x05\x00\x00",                          // a time of 0, and another run is to come
		"\x02\x05\x00\x00\x00",
		"\x02\x05\x00\x00\x00\x00",
		"\x02\xc8\x01\x01\x01\x01",                           // replica 201
		"\x02\xc8\x01\x00\x01\xc8\x01\x00",                   // replica 402
		"\x02\x00\x10" + strings.Repeat("\x01", 17),          // too many entries
		"\x02\x00\x10" + strings.Repeat("\x00", 17) + "\x00", // too many, of times of 0
	} {
		checkUnread(t, "nothing behind", s, api.ErrMissing)
		checkUnread(t, "it goes on", s+"\x80", api.ErrMissing)
		checkUnread(t, "a nought on top", s+"\x80\x00", api.ErrForm)
		checkUnread(t, "above 64 bits", s+ones+"\x02", api.ErrLimit)
	}
}

// small are all vectors of up to four of some replicas, of times up to 3, by their bytes.
func small(replicas int) map[string][]api.Entry {
	m := map[string][]api.Entry{}
	all := [][]api.Entry{nil}
	for i := 0; i < len(all); i++ {
		l := all[i]
		m[spelled(l)] = l
		first := 0
		if len(l) > 0 {
			first = l[len(l)-1].Replica + 1
		}
		for replica := first; replica < replicas && len(l) < 4; replica++ {
			for time := 1; time <= 3; time++ {
				all = append(all, append(slices.Clone(l), at(replica, time)))
			}
		}
	}
	return m
}

// short are all texts of some bytes, up to a length.
func short(kinds string, most int) []string {
	out := []string{""}
	for i := 0; len(out[i]) < most; i++ {
		for _, c := range []byte(kinds) {
			out = append(out, out[i]+string([]byte{c}))
		}
	}
	return out
}

// Promises 6.2, P1: of all short texts Read has the vector that is so written, and nothing else; no beginning of one is another one.
func TestReadHasWhatIsWritten(t *testing.T) {
	// In seven bytes up to 3 there are no more than two runs, of four entries, up to replica 8.
	m := small(9)
	for _, s := range short("\x00\x01\x02\x03", 7) {
		var want []api.Entry
		size := 0
		for end := range len(s) + 1 {
			l, ok := m[s[:end]]
			if ok && size > 0 {
				t.Errorf("%x begins with %v and %v", s, want, l)
			}
			if ok {
				want, size = l, end
			}
		}
		l, n, err := vector.Read(s)
		if !slices.Equal(l, want) || n != size || (err == nil) != (size > 0) {
			t.Errorf("Read(%x) = %v, %d, %v; want %v, %d", s, l, n, err, want, size)
		}
	}
}

// Promises 6.2, P1: what is read of bytes that are turned is written just so.
func TestReadOfWhatIsTurned(t *testing.T) {
	read := 0
	for seed := range 60 {
		s := spelled(mixed(seed, api.MaxEntries, 1+3*seed))
		for i := range 8 * len(s) {
			b := []byte(s)
			b[i/8] ^= 1 << (i % 8)
			l, n, err := vector.Read(string(b))
			if err != nil {
				checkUnread(t, "turned", string(b), api.Tell(err))
				continue
			}
			read++
			if spelled(l) != string(b[:n]) {
				t.Errorf("Read(%x) = %v, %d; these are %x", b, l, n, spelled(l))
			}
		}
	}
	if read < 1000 {
		t.Errorf("%d were read: hardly a test", read)
	}
}

// Promise P4: no list is written into, nor what stands behind its length.
func TestListsStayAsTheyAre(t *testing.T) {
	for _, l := range [][]api.Entry{
		{at(1, 5), at(2, 9), at(7, 1), at(9, 3)},
		{at(1, 5), at(2, 9), at(2, 1), at(9, 3)},
		{at(7, 5), at(2, 9), at(1, 1), at(9, 3)},
	} {
		was, other := slices.Clone(l), []api.Entry{at(0, 2), at(2, 12), at(8, 3), at(10, 10), at(11, 11)}
		for n := range len(l) + 1 {
			vector.Right(l[:n])
			vector.Of(l[:n], 9)
			vector.Join(l[:n], other[:4])
			vector.Join(other[:4], l[:n])
			vector.Covers(l[:n], other[:4])
			vector.Covers(other[:4], l[:n])
			vector.Write(l[:n])
		}
		if !slices.Equal(l, was) || !slices.Equal(other, []api.Entry{at(0, 2), at(2, 12), at(8, 3), at(10, 10), at(11, 11)}) {
			t.Errorf("entries are %v and %v now; they were %v", l, other, was)
		}
	}
}

// Promise P4: what comes out is fresh memory, and the caller's.
func TestAnswersAreFresh(t *testing.T) {
	l := []api.Entry{at(1, 5), at(2, 9)}
	was := slices.Clone(l)
	for _, x := range [][2][]api.Entry{{l, nil}, {nil, l}, {l, l}, {l, l[:1]}, {l[:1], l}} {
		first, _ := vector.Join(x[0], x[1])
		second, _ := vector.Join(x[0], x[1])
		clear(first)
		clear(append(first, at(8, 8)))
		if !slices.Equal(l, was) || !slices.Equal(second, was) {
			t.Errorf("entries are %v now, and Join's %v; they were %v", l, second, was)
		}
	}
	first, _, _ := vector.Read(spelled(l))
	second, _, _ := vector.Read(spelled(l))
	clear(first)
	if !slices.Equal(second, was) {
		t.Errorf("Read's entries are %v now; they were %v", second, was)
	}
}
