package store_test

import (
	"fmt"
	"math"
	"math/big"
	"reflect"
	"slices"
	"sort"
	"strings"
	"testing"
	"unsafe"

	"packtrain/api"
	"packtrain/plain"
	"packtrain/store"
)

// id is an id with nothing wrong.
var id = api.Id{Time: 7, Replica: 3}

// of is a write of that id.
func of(kind int, key, value string, n int) api.Write {
	return api.Write{Id: id, Kind: kind, Key: key, Value: value, N: n}
}

// put, drop, add and insert are writes of that id.
func put(key, value string) api.Write           { return of(api.Put, key, value, 0) }
func drop(key string) api.Write                 { return of(api.Drop, key, "", 0) }
func add(key string, n int) api.Write           { return of(api.Add, key, "", n) }
func insert(key, value string, n int) api.Write { return of(api.Insert, key, value, n) }

// with is a write that is changed.
func with(w api.Write, change func(*api.Write)) api.Write {
	change(&w)
	return w
}

// x is a text of so many bytes.
func x(n int) string { return strings.Repeat("x", n) }

// text, sum and list are cells that have one thing.
func text(key, s string) api.Cell           { return api.Cell{Key: key, Has: true, Text: s} }
func sum(key string, n int) api.Cell        { return api.Cell{Key: key, Sum: n} }
func list(key string, l ...string) api.Cell { return api.Cell{Key: key, List: l} }

// show are cells or writes as a text that isn't too long.
func show(l any) string {
	if s := fmt.Sprintf("%+v", l); len(s) < 400 {
		return s
	}
	return fmt.Sprintf("a list of %d", reflect.ValueOf(l).Len())
}

// same tells whether two lists have the same cells; a list that is empty may be nil or not.
func same(a, b []api.Cell) bool {
	return slices.EqualFunc(a, b, func(c, d api.Cell) bool {
		return c.Key == d.Key && c.Has == d.Has && c.Text == d.Text && c.Sum == d.Sum && slices.Equal(c.List, d.List)
	})
}

// checkCells asks for all cells of a store.
func checkCells(t *testing.T, name string, s *store.Store, want ...api.Cell) {
	t.Helper()
	if got := s.Cells(); !same(got, want) {
		t.Errorf("%s: Cells() = %s; want %s", name, show(got), show(want))
	}
}

// checkDo asks for what is wrong with a write: an Errno without a place.
func checkDo(t *testing.T, name string, s *store.Store, w api.Write, want api.Errno) {
	t.Helper()
	if e, place := plain.Place(s.Do(w)); e != want || place != -1 {
		t.Errorf("%s: Do(%.200s) = error %d at %d; want %d", name, fmt.Sprintf("%+v", w), e, place, want)
	}
}

// checkOf asks for what writes come to, all at once, and one by one.
func checkOf(t *testing.T, name string, l []api.Write, want ...api.Cell) {
	t.Helper()
	if got, err := store.Of(l); err != nil || !same(got, want) {
		t.Errorf("%s: Of(%s) = %s, %v; want %s", name, show(l), show(got), err, show(want))
	}
	s := store.New()
	for _, w := range l {
		checkDo(t, name, s, w, api.OK)
	}
	checkCells(t, name, s, want...)
}

// checkNotOf asks for an error, the number of the write that it is of, and no cells with it.
func checkNotOf(t *testing.T, name string, l []api.Write, want api.Errno, at int) {
	t.Helper()
	got, err := store.Of(l)
	if e, place := plain.Place(err); e != want || place != at || len(got) > 0 {
		t.Errorf("%s: Of(%s) = %s, error %d at %d; want error %d at %d", name, show(l), show(got), e, place, want, at)
	}
}

// Promises 14.1, P2: a new one has no cells, nor have no writes.
func TestNewHasNoCells(t *testing.T) {
	checkCells(t, "new", store.New())
	checkOf(t, "none", nil)
	checkOf(t, "none, not nil", []api.Write{})
}

// Promise 14.1: what each kind does to a cell, be it new, or whatever it has.
func TestKnownCells(t *testing.T) {
	for _, c := range []struct {
		name string
		l    []api.Write
		want []api.Cell
	}{
		{"a Put", []api.Write{put("k", "v")}, []api.Cell{text("k", "v")}},
		{"a Put of no bytes", []api.Write{put("k", "")}, []api.Cell{text("k", "")}},
		{"a Put of the key of no bytes", []api.Write{put("", "v")}, []api.Cell{text("", "v")}},
		{"two Puts", []api.Write{put("k", "v"), put("k", "w")}, []api.Cell{text("k", "w")}},
		{"two Puts, the other one of no bytes", []api.Write{put("k", "v"), put("k", "")}, []api.Cell{text("k", "")}},
		{"the longest key and value", []api.Write{put(x(40), x(300))}, []api.Cell{text(x(40), x(300))}},

		{"a Drop", []api.Write{drop("k")}, nil},
		{"a Drop of a text", []api.Write{put("k", "v"), drop("k")}, nil},
		{"a Drop of a text of no bytes", []api.Write{put("k", ""), drop("k")}, nil},
		{"a Drop of a sum", []api.Write{add("k", 1), drop("k")}, nil},
		{"a Drop of a list", []api.Write{insert("k", "v", 0), drop("k")}, nil},
		{"a Drop of all", []api.Write{put("k", "v"), add("k", 1), insert("k", "v", 0), drop("k")}, nil},
		{"two Drops", []api.Write{put("k", "v"), drop("k"), drop("k")}, nil},
		{"a Drop ahead", []api.Write{drop("k"), put("k", "v")}, []api.Cell{text("k", "v")}},
		{"a Drop of another key", []api.Write{put("k", "v"), drop("kk"), drop("")}, []api.Cell{text("k", "v")}},
		{"a text behind a Drop of all", []api.Write{put("k", "v"), add("k", 1), insert("k", "v", 0), drop("k"), put("k", "w")}, []api.Cell{text("k", "w")}},
		{"a sum behind a Drop of all", []api.Write{put("k", "v"), add("k", 1), insert("k", "v", 0), drop("k"), add("k", 2)}, []api.Cell{sum("k", 2)}},
		{"a list behind a Drop of all", []api.Write{put("k", "v"), add("k", 1), insert("k", "v", 0), drop("k"), insert("k", "w", 1)}, []api.Cell{list("k", "w")}},

		{"an Add", []api.Write{add("k", 3)}, []api.Cell{sum("k", 3)}},
		{"an Add below 0", []api.Write{add("k", -3)}, []api.Cell{sum("k", -3)}},
		{"an Add of 0", []api.Write{add("k", 0)}, nil},
		{"an Add of 0 to a sum", []api.Write{add("k", 3), add("k", 0)}, []api.Cell{sum("k", 3)}},
		{"Adds", []api.Write{add("k", 3), add("k", -1), add("k", 10)}, []api.Cell{sum("k", 12)}},
		{"Adds that are 0 together", []api.Write{add("k", 3), add("k", -3)}, nil},
		{"Adds that were 0 together", []api.Write{add("k", 3), add("k", -3), add("k", 4)}, []api.Cell{sum("k", 4)}},
		{"Adds of the most and the least", []api.Write{add("k", 1<<50), add("k", 1<<50), add("l", -1<<50)}, []api.Cell{sum("k", 1<<51), sum("l", -1<<50)}},
		{"Adds that are 0 together, under a text", []api.Write{put("k", ""), add("k", 3), add("k", -3)}, []api.Cell{text("k", "")}},
		{"Adds that are 0 together, under a list", []api.Write{insert("k", "", 0), add("k", 3), add("k", -3)}, []api.Cell{list("k", "")}},

		{"an Insert", []api.Write{insert("k", "v", 0)}, []api.Cell{list("k", "v")}},
		{"an Insert of no bytes", []api.Write{insert("k", "", 0)}, []api.Cell{list("k", "")}},
		{"an Insert far behind", []api.Write{insert("k", "v", 1000)}, []api.Cell{list("k", "v")}},
		{"Inserts ahead of each other", []api.Write{insert("k", "a", 0), insert("k", "b", 0), insert("k", "c", 0)}, []api.Cell{list("k", "c", "b", "a")}},
		{"Inserts behind each other", []api.Write{insert("k", "a", 0), insert("k", "b", 1), insert("k", "c", 2)}, []api.Cell{list("k", "a", "b", "c")}},
		{"Inserts behind all", []api.Write{insert("k", "a", 9), insert("k", "b", 9), insert("k", "c", 3)}, []api.Cell{list("k", "a", "b", "c")}},
		{"an Insert between", []api.Write{insert("k", "a", 0), insert("k", "b", 1), insert("k", "c", 1)}, []api.Cell{list("k", "a", "c", "b")}},
		{"an Insert twice", []api.Write{insert("k", "a", 0), insert("k", "a", 0)}, []api.Cell{list("k", "a", "a")}},
		{"Inserts of no bytes", []api.Write{insert("k", "", 0), insert("k", "", 0)}, []api.Cell{list("k", "", "")}},

		{"all", []api.Write{put("k", "v"), add("k", 7), insert("k", "a", 0), insert("k", "b", 0)}, []api.Cell{{Key: "k", Has: true, Text: "v", Sum: 7, List: []string{"b", "a"}}}},
		{"all, the other way round", []api.Write{insert("k", "a", 0), add("k", 7), insert("k", "b", 0), put("k", "v")}, []api.Cell{{Key: "k", Has: true, Text: "v", Sum: 7, List: []string{"b", "a"}}}},
		{"each under its own key", []api.Write{insert("c", "a", 0), add("b", 7), insert("c", "b", 0), put("a", "v"), drop("d")}, []api.Cell{text("a", "v"), sum("b", 7), list("c", "b", "a")}},
		{"bytes that are no letters", []api.Write{put("\xff\x00\n", "\x80\x00"), insert("\xff\x00\n", "\xfe", 0)}, []api.Cell{{Key: "\xff\x00\n", Has: true, Text: "\x80\x00", List: []string{"\xfe"}}}},
	} {
		checkOf(t, c.name, c.l, c.want...)
	}
}

// Promise 14.1: the order of writes is how they come, whatever their ids are; one that comes twice is done twice.
func TestIdsCountForNothing(t *testing.T) {
	at := func(w api.Write, time, replica int) api.Write {
		w.Id = api.Id{Time: time, Replica: replica}
		return w
	}
	checkOf(t, "earlier ones behind", []api.Write{at(put("k", "a"), 9, 200), at(put("k", "b"), 1<<40, 0), at(put("k", "c"), 1, 0)}, text("k", "c"))
	checkOf(t, "one twice", []api.Write{at(add("k", 3), 9, 1), at(add("k", 3), 9, 1), at(insert("k", "v", 0), 9, 1), at(insert("k", "v", 0), 9, 1)},
		api.Cell{Key: "k", Sum: 6, List: []string{"v", "v"}})
}

// Promises 14.1, P5: cells are by rising keys, byte by byte, in whichever order they come.
func TestCellsAreInOrder(t *testing.T) {
	keys := []string{"", "\x00", "\x00\x00", "\x00\x01", "\x01", "A", "B", "Z", "a", "a\x00", "aB", "aa", "ab", "b", "z", "\x7f", "\x80", "\xc3\xa4", "\xe4", "\xff", "\xff\x00", "\xff\xff", x(1), x(39), x(40)}
	sort.Strings(keys)
	var want []api.Cell
	for i, key := range keys {
		want = append(want, sum(key, i+1))
	}
	for step := range len(keys) {
		if slices.Contains([]int{0, 5, 10, 15, 20}, step) { // these share a factor with how many there are
			continue
		}
		var l []api.Write
		for i := range keys {
			at := (i*step + step) % len(keys)
			l = append(l, add(keys[at], at+1))
		}
		checkOf(t, fmt.Sprintf("every %d", step), l, want...)
	}
}

// Promise 14.1: where a value stands in a list that is not as long as the list may be, as long, and longer.
func TestInsertStandsWhereItIsTold(t *testing.T) {
	for _, size := range []int{0, 1, 2, 3, 7, 8, 9, 998, 999, 1000, 1001, 1002, 1500} {
		var l []api.Write
		var there []string
		for i := range size {
			l = append(l, insert("k", fmt.Sprint(i%1001), min(i, 1000)))
			if i <= 1000 {
				there = append(there, fmt.Sprint(i%1001))
			} else {
				there = slices.Concat(there[:1000], []string{fmt.Sprint(i % 1001)}, there[1000:])
			}
		}
		for _, n := range []int{0, 1, 2, 3, 4, 7, 8, 9, 10, 500, 998, 999, 1000} {
			ahead := min(n, size)
			want := slices.Concat(there[:ahead], []string{"new"}, there[ahead:])
			checkOf(t, fmt.Sprintf("%d ahead, of %d", n, size), append(slices.Clone(l), insert("k", "new", n)), list("k", want...))
		}
	}
}

// times is a sum that has so much more, so many times.
func times(s *store.Store, n, more int) {
	for range n {
		s.Do(add("k", more))
	}
}

// Promise 14.1: a sum is modulo 2^64, as a number with a sign.
func TestSumsGoRound(t *testing.T) {
	s := store.New()
	times(s, 1<<13-1, 1<<50)
	checkCells(t, "near the greatest", s, sum("k", math.MaxInt-(1<<50-1)))
	s.Do(add("k", 1<<50-1))
	checkCells(t, "the greatest", s, sum("k", math.MaxInt))
	s.Do(add("k", 1))
	checkCells(t, "one more", s, sum("k", math.MinInt))
	s.Do(add("k", -1))
	checkCells(t, "and one less", s, sum("k", math.MaxInt))
	s.Do(add("k", 1<<50))
	checkCells(t, "and more", s, sum("k", math.MinInt+1<<50-1))
	times(s, 1<<13-1, 1<<50)
	checkCells(t, "near 0, from below", s, sum("k", -1))
	s.Do(add("k", 1))
	checkCells(t, "all the way round", s)
	s.Do(add("k", 2))
	checkCells(t, "and on", s, sum("k", 2))
	times(s, 1<<13, -1<<50)
	checkCells(t, "as far as it goes below", s, sum("k", math.MinInt+2))
	s.Do(add("k", -3))
	checkCells(t, "and round", s, sum("k", math.MaxInt))
}

// bads are writes that aren't right, and what is wrong with them.
var bads = []struct {
	name string
	w    api.Write
	want api.Errno
}{
	{"none", api.Write{}, api.ErrArg},
	{"no kind", of(0, "k", "", 0), api.ErrArg},
	{"a kind above all", of(5, "k", "", 0), api.ErrArg},
	{"a kind below all", of(-1, "k", "", 0), api.ErrArg},
	{"the greatest kind", of(math.MaxInt, "k", "", 0), api.ErrArg},
	{"the least kind", of(math.MinInt, "k", "", 0), api.ErrArg},
	{"a time of 0", with(put("k", "w"), func(w *api.Write) { w.Id.Time = 0 }), api.ErrRange},
	{"a time above the most", with(put("k", "w"), func(w *api.Write) { w.Id.Time = 1<<40 + 1 }), api.ErrRange},
	{"a replica below 0", with(drop("k"), func(w *api.Write) { w.Id.Replica = -1 }), api.ErrRange},
	{"a replica above the most", with(add("k", 1), func(w *api.Write) { w.Id.Replica = 201 }), api.ErrRange},
	{"no id", with(insert("k", "w", 0), func(w *api.Write) { w.Id = api.Id{} }), api.ErrRange},
	{"a key above the most", put(x(41), "w"), api.ErrLimit},
	{"a key above the most, of a Drop", drop(x(41)), api.ErrLimit},
	{"a value above the most", put("k", x(301)), api.ErrLimit},
	{"a value above the most, of an Insert", insert("k", x(301), 0), api.ErrLimit},
	{"a value of a Drop", of(api.Drop, "k", "w", 0), api.ErrForm},
	{"a value of an Add", of(api.Add, "k", "w", 1), api.ErrForm},
	{"a number of a Put", of(api.Put, "k", "w", 1), api.ErrForm},
	{"a number of a Drop", of(api.Drop, "k", "", -1), api.ErrForm},
	{"a number above the most", add("k", 1<<50+1), api.ErrRange},
	{"a number below the least", add("k", -1<<50-1), api.ErrRange},
	{"the greatest number", add("k", math.MaxInt), api.ErrRange},
	{"the least number", add("k", math.MinInt), api.ErrRange},
	{"a place below 0", insert("k", "w", -1), api.ErrRange},
	{"a place above the most", insert("k", "w", 1001), api.ErrRange},
	{"the greatest place", insert("k", "w", math.MaxInt), api.ErrRange},

	{"no kind, and no id", of(7, x(41), "w", 1), api.ErrArg},
	{"no id, and a key above the most", api.Write{Kind: api.Put, Key: x(41)}, api.ErrRange},
	{"a value above the most, of a Drop", of(api.Drop, "k", x(301), 1), api.ErrLimit},
	{"a value of an Add, and a number above the most", of(api.Add, "k", "w", 1<<50+1), api.ErrForm},
}

// Promises 14.1, P2, P3: what is wrong with a write is told, and nothing is done then.
func TestDoTellsWhatIsWrong(t *testing.T) {
	all := api.Cell{Key: "k", Has: true, Text: "v", Sum: 7, List: []string{"a"}}
	empty, full := store.New(), store.New()
	for _, w := range []api.Write{put("k", "v"), add("k", 7), insert("k", "a", 0)} {
		checkDo(t, "right", full, w, api.OK)
	}
	for _, b := range bads {
		checkDo(t, b.name, empty, b.w, b.want)
		checkCells(t, b.name, empty)
		checkDo(t, b.name, full, b.w, b.want)
		checkCells(t, b.name, full, all)
	}
	checkDo(t, "right, behind all", empty, add("k", 1), api.OK)
	checkCells(t, "right, behind all", empty, sum("k", 1))
	checkDo(t, "right, behind all", full, drop("k"), api.OK)
	checkCells(t, "right, behind all", full)
}

// Promises 14.1, P2, P3: of many writes the first wrong one is told, at its number, and no cells with it.
func TestOfTellsWhichIsWrong(t *testing.T) {
	for _, b := range bads {
		checkNotOf(t, b.name, []api.Write{b.w}, b.want, 0)
		checkNotOf(t, b.name+", behind one", []api.Write{put("k", "v"), b.w}, b.want, 1)
		checkNotOf(t, b.name+", behind a Drop", []api.Write{put("k", "v"), drop("k"), b.w}, b.want, 2)
		checkNotOf(t, b.name+", between", []api.Write{put("k", "v"), add("l", 1), b.w, drop("k")}, b.want, 2)
		checkNotOf(t, b.name+", behind many", append(slices.Repeat([]api.Write{insert("k", "v", 0)}, 300), b.w), b.want, 300)
		for _, c := range bads {
			checkNotOf(t, b.name+"; "+c.name, []api.Write{put("k", "v"), b.w, c.w}, b.want, 1)
		}
	}
}

// spelled is what a key's writes come to, as 14.1 tells, spelled out from the last Drop on; whether it has something, too.
func spelled(key string, l []api.Write) (api.Cell, bool) {
	c := api.Cell{Key: key}
	total := new(big.Int)
	for i := len(l) - 1; i >= 0; i-- {
		if l[i].Kind == api.Drop && l[i].Key == key {
			l = l[i+1:]
			break
		}
	}
	for _, w := range l {
		if w.Key != key {
			continue
		}
		switch w.Kind {
		case api.Put:
			c.Has, c.Text = true, w.Value
		case api.Add:
			total.Add(total, big.NewInt(int64(w.N)))
		case api.Insert:
			var next []string
			for n, value := range c.List {
				if n == w.N {
					next = append(next, w.Value)
				}
				next = append(next, value)
			}
			if w.N >= len(c.List) {
				next = append(next, w.Value)
			}
			c.List = next
		}
	}
	round := new(big.Int).Lsh(big.NewInt(1), 64)
	c.Sum = int(new(big.Int).Mod(total, round).Uint64())
	return c, c.Has || total.Sign() != 0 || len(c.List) > 0
}

// spelledAll is what writes come to.
func spelledAll(l []api.Write) []api.Cell {
	keys := map[string]bool{}
	for _, w := range l {
		keys[w.Key] = true
	}
	var all []api.Cell
	for key := range keys {
		if c, some := spelled(key, l); some {
			all = append(all, c)
		}
	}
	sort.Slice(all, func(i, j int) bool { return all[i].Key < all[j].Key })
	return all
}

// few are writes of two keys that do all that may be done.
var few = []api.Write{
	put("k", "v"), put("k", ""), drop("k"), add("k", 1), add("k", -1), insert("k", "a", 0), insert("k", "b", 1), insert("k", "", 2),
	put("", "w"), drop(""), add("", 1), insert("", "c", 0),
}

// Promise 14.1: all lists of up to four of few writes, asked behind each one, against the promise spelled out.
func TestCellsOfAllShortLists(t *testing.T) {
	lists := [][]api.Write{nil}
	for size := 0; len(lists) > 0; size++ {
		var next [][]api.Write
		for _, l := range lists {
			checkOf(t, "short", l, spelledAll(l)...)
			for _, w := range few {
				if size < 4 {
					next = append(next, append(slices.Clone(l), w))
				}
			}
		}
		lists = next
	}
}

// chance are numbers that look like chance, and are the same each time.
type chance uint64

// next is one of so many.
func (c *chance) next(n int) int {
	*c = *c*6364136223846793005 + 1442695040888963407
	return int(*c>>33) % n
}

// some are so many writes of so many keys, all right.
func some(c *chance, n, keys int) []api.Write {
	var l []api.Write
	for range n {
		w := with(few[c.next(len(few))], func(w *api.Write) { w.Key = string(rune('a' + c.next(keys))) })
		switch w.Kind {
		case api.Drop: // not too often: lists are to become long
			if c.next(8) > 0 {
				w = insert(w.Key, fmt.Sprint(c.next(100)), c.next(12))
			}
		case api.Add:
			w.N = c.next(2001) - 1000
		case api.Insert:
			w.Value, w.N = fmt.Sprint(c.next(100)), c.next(12)
		}
		l = append(l, w)
	}
	return l
}

// Promises 14.1, P4: long lists of writes, asked now and then, against the promise spelled out; what is asked changes nothing.
func TestCellsOfLongLists(t *testing.T) {
	c := chance(14)
	for keys := 1; keys < 20; keys += 3 {
		for range 20 {
			l := some(&c, 150, keys)
			s := store.New()
			for i, w := range l {
				checkDo(t, "long", s, w, api.OK)
				if i%30 == 29 {
					checkCells(t, "long", s, spelledAll(l[:i+1])...)
				}
			}
			checkOf(t, "long", l, spelledAll(l)...)
		}
	}
}

// Promises 14.1, P1: very many keys, and a very long list.
func TestVeryMany(t *testing.T) {
	var l []api.Write
	var want []api.Cell
	for i := range 1 << 15 {
		l = append(l, put(fmt.Sprintf("%05d", i*7919%(1<<15)), "v"))
		want = append(want, text(fmt.Sprintf("%05d", i), "v"))
	}
	checkOf(t, "very many keys", l, want...)
	var values []string
	l = nil
	for i := range 1 << 14 {
		l = append(l, insert("k", fmt.Sprint(i), 0))
		values = append(values, fmt.Sprint(i))
	}
	slices.Reverse(values)
	checkOf(t, "a very long list", l, list("k", values...))
}

// Promise P1: whatever a write is, it is done, or it is told what is wrong.
func TestWhateverAWriteIs(t *testing.T) {
	numbers := []int{math.MinInt, -1<<50 - 1, -1 << 50, -1, 0, 1, 2, 3, 4, 5, 200, 201, 1000, 1001, 1 << 40, 1<<40 + 1, 1 << 50, 1<<50 + 1, math.MaxInt}
	texts := []string{"", "k", "\xff", x(40), x(41), x(300), x(301)}
	c := chance(15)
	s := store.New()
	var done []api.Write
	for range 200_000 {
		w := api.Write{
			Id:    api.Id{Time: numbers[c.next(len(numbers))], Replica: numbers[c.next(len(numbers))]},
			Kind:  numbers[3+c.next(6)],
			Key:   texts[c.next(len(texts))],
			Value: texts[c.next(len(texts))],
			N:     numbers[c.next(len(numbers))],
		}
		if s.Do(w) == nil {
			done = append(done, w)
		} else if _, err := store.Of([]api.Write{w}); err == nil {
			t.Errorf("Do has an error of %.200s, and Of has none", fmt.Sprintf("%+v", w))
		}
	}
	if len(done) < 1000 {
		t.Errorf("%d were done", len(done))
	}
	checkCells(t, "whatever", s, spelledAll(done)...)
	checkOf(t, "what was done", done, s.Cells()...)
}

// Promise P4: stores have nothing in common.
func TestStoresAreApart(t *testing.T) {
	a, b := store.New(), store.New()
	checkDo(t, "a", a, put("k", "v"), api.OK)
	checkCells(t, "b", b)
	checkDo(t, "b", b, insert("l", "w", 0), api.OK)
	checkCells(t, "a", a, text("k", "v"))
	checkCells(t, "b", b, list("l", "w"))
	checkOf(t, "of none", nil)
	checkCells(t, "new", store.New())
}

// Promise P4: what stands in a list of writes, and behind its length, is as it was.
func TestOfWritesIntoNothing(t *testing.T) {
	all := []api.Write{insert("k", "a", 1), add("b", 1), put("a", "v"), insert("k", "b", 0), drop("b"), put("z", "z"), {}}
	was := slices.Clone(all)
	for n := range len(all) {
		store.Of(all[:n])
		if !slices.Equal(all, was) {
			t.Fatalf("Of %d writes changed them to %s", n, show(all))
		}
	}
}

// Promise P4: cells are the caller's: what is done to them, and behind their lists, isn't done to others.
func TestCellsAreFresh(t *testing.T) {
	s := store.New()
	var want []api.Cell
	for _, w := range []api.Write{put("a", "v"), add("a", 7), insert("b", "x", 0), insert("c", "x", 0), insert("c", "y", 1), insert("c", "z", 2), put("d", "w")} {
		checkDo(t, "right", s, w, api.OK)
	}
	want = append(want, api.Cell{Key: "a", Has: true, Text: "v", Sum: 7}, list("b", "x"), list("c", "x", "y", "z"), text("d", "w"))
	first, second := s.Cells(), s.Cells()
	for _, c := range first {
		clear(c.List)
		clear(c.List[:cap(c.List)])
		_ = append(c.List, "behind")
	}
	clear(first)
	if !same(second, want) {
		t.Errorf("what is done to an answer makes another one %s", show(second))
	}
	checkCells(t, "what was done to an answer", s, want...)
	// A list that grows where it lies would show through.
	for n := range 20 {
		checkDo(t, "grows", s, insert("c", fmt.Sprint(n), 1), api.OK)
	}
	checkDo(t, "dropped", s, drop("b"), api.OK)
	checkDo(t, "put", s, put("a", "other"), api.OK)
	if !same(second, want) {
		t.Errorf("what is done later makes an answer %s", show(second))
	}
	both := s.Cells()
	_ = append(both[1].List, "behind")
	if got := both[1].List; both[1].Key != "c" || len(got) != 23 || got[0] != "x" || got[1] != "19" || got[22] != "z" {
		t.Errorf("the list is %q", got)
	}
}

// Promise P4: no text that is handed in is kept, nor shared with an answer, nor is the store's.
func TestTextsAreFresh(t *testing.T) {
	letters := []byte("kvwl")
	shared := func(n int) string { return unsafe.String(&letters[n], 1) }
	l := []api.Write{put(shared(0), shared(1)), insert(shared(0), shared(2), 0), add(shared(3), 1)}
	want := []api.Cell{{Key: "k", Has: true, Text: "v", List: []string{"w"}}, sum("l", 1)}
	s := store.New()
	for _, w := range l {
		checkDo(t, "shared", s, w, api.OK)
	}
	all, _ := store.Of(l)
	copy(letters, "????")
	if !same(all, want) {
		t.Errorf("Of shares texts of its writes: %s", show(all))
	}
	checkCells(t, "texts of writes", s, want...)
	checkDo(t, "the same key", s, add("l", 1), api.OK)
	checkCells(t, "the same key", s, want[0], sum("l", 2))

	got := s.Cells()
	for _, text := range []string{got[0].Key, got[0].Text, got[0].List[0], got[1].Key} {
		unsafe.Slice(unsafe.StringData(text), 1)[0] = '?'
	}
	checkCells(t, "texts of answers", s, want[0], sum("l", 2))
}

// Promises 14.1, P4: what is asked hangs on what was done alone, however often it is asked.
func TestCellsAreTheSameAgain(t *testing.T) {
	c := chance(16)
	l := some(&c, 300, 26)
	want := spelledAll(l)
	for range 50 {
		checkOf(t, "again", l, want...)
	}
}
