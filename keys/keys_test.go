package keys_test

import (
	"fmt"
	"math"
	"slices"
	"strings"
	"testing"
	"unsafe"

	"packtrain/api"
	"packtrain/keys"
	"packtrain/plain"
)

// checkTable asks for the table of a list, and the numbers in it.
func checkTable(t *testing.T, l, table []string, at []int) {
	t.Helper()
	gotTable, gotAt := keys.Table(l)
	if !slices.Equal(gotTable, table) || !slices.Equal(gotAt, at) {
		t.Errorf("Table(%.60q) = %.60q, %v; want %.60q, %v", l, gotTable, gotAt, table, at)
	}
}

// checkList asks for the list of a table, and numbers in it.
func checkList(t *testing.T, table []string, at []int, want []string) {
	t.Helper()
	l, err := keys.List(table, at)
	if !slices.Equal(l, want) || err != nil {
		t.Errorf("List(%.60q, %v) = %.60q, %v; want %.60q", table, at, l, err, want)
	}
}

// checkUnlisted asks for an error, its place (-1: none), and no list with it.
func checkUnlisted(t *testing.T, table []string, at []int, want api.Errno, place int) {
	t.Helper()
	l, err := keys.List(table, at)
	if e, p := plain.Place(err); e != want || p != place || len(l) != 0 {
		t.Errorf("List(%.60q, %v) = %.60q, error %d at %d; want error %d at %d", table, at, l, e, p, want, place)
	}
}

// known are lists, their tables, and their numbers in these.
var known = []struct {
	l, table []string
	at       []int
}{
	{nil, nil, nil},
	{[]string{}, []string{}, []int{}},
	{[]string{"a"}, []string{"a"}, []int{0}},
	{[]string{""}, []string{""}, []int{0}},
	{[]string{"b", "a", "b"}, []string{"b", "a"}, []int{0, 1, 0}},
	{[]string{"a", "a", "a"}, []string{"a"}, []int{0, 0, 0}},
	{[]string{"c", "b", "a"}, []string{"c", "b", "a"}, []int{0, 1, 2}},
	{[]string{"c", "b", "c", "a", "b", "d"}, []string{"c", "b", "a", "d"}, []int{0, 1, 0, 2, 1, 3}},
	{[]string{"", "a", "", "aa", "a"}, []string{"", "a", "aa"}, []int{0, 1, 0, 2, 1}},
	{[]string{"a", "", "a"}, []string{"a", ""}, []int{0, 1, 0}},
	{[]string{"k", "K", "k ", " k", "kk"}, []string{"k", "K", "k ", " k", "kk"}, []int{0, 1, 2, 3, 4}},
	{[]string{"\x00", "", "\x00\x00", "\x00"}, []string{"\x00", "", "\x00\x00"}, []int{0, 1, 2, 0}},
	// Texts are bytes: these have the same letters, or are no letters at all.
	{[]string{"\u00e4", "a\u0308", "\xe4", "\ufffd", "\xff", "\xfe"}, []string{"\u00e4", "a\u0308", "\xe4", "\ufffd", "\xff", "\xfe"}, []int{0, 1, 2, 3, 4, 5}},
	{[]string{strings.Repeat("x", 5000), strings.Repeat("x", 4999), strings.Repeat("x", 5000)}, []string{strings.Repeat("x", 5000), strings.Repeat("x", 4999)}, []int{0, 1, 0}},
}

// Promises 8.1, P5: each text once, as they come first, and the other way round.
func TestKnownLists(t *testing.T) {
	for _, x := range known {
		checkTable(t, x.l, x.table, x.at)
		checkList(t, x.table, x.at, x.l)
	}
}

// lists are all lists of so many of these at most.
func lists[T any](of []T, most int) [][]T {
	all := [][]T{nil}
	from := 0
	for range most {
		end := len(all)
		for _, l := range all[from:end] {
			for _, x := range of {
				all = append(all, append(slices.Clone(l), x))
			}
		}
		from = end
	}
	return all
}

// Promise 8.1: of each list of up to six of three texts: a table of texts that it has, no two the same, as they come first.
func TestTableOfAllShortLists(t *testing.T) {
	for _, l := range lists([]string{"", "a", "ab"}, 6) {
		var table []string
		for i, s := range l {
			if slices.Index(l, s) == i {
				table = append(table, s)
			}
		}
		var at []int
		for _, s := range l {
			at = append(at, slices.Index(table, s))
		}
		checkTable(t, l, table, at)
		checkList(t, table, at, l)
	}
}

// distinct is how many numbers a list has, each counted once.
func distinct(at []int) int {
	l := slices.Clone(at)
	slices.Sort(l)
	return len(slices.Compact(l))
}

// spelled is what 8.1 tells of a table, and numbers in it: an error, and its place (-1: none).
func spelled(table []string, at []int) (api.Errno, int) {
	for i, s := range table {
		if slices.Contains(table[:i], s) {
			return api.ErrTwice, i
		}
	}
	for i, n := range at {
		if n < 0 || n > len(table)-1 {
			return api.ErrRange, i
		}
		if n > distinct(at[:i]) {
			return api.ErrFalse, i
		}
	}
	for n := range table {
		if !slices.Contains(at, n) {
			return api.ErrNone, -1
		}
	}
	return api.OK, -1
}

// Promises 8.1, P2, P3: of all short tables and numbers just those make a list that Table tells, and each makes the list of which it does.
func TestListOfAllShortTables(t *testing.T) {
	told := map[string][]string{}
	for _, l := range lists([]string{"", "a", "b"}, 4) {
		table, at := keys.Table(l)
		told[fmt.Sprintf("%q %v", table, at)] = l
	}
	found := 0
	for _, table := range lists([]string{"", "a", "b"}, 4) {
		for _, at := range lists([]int{-1, 0, 1, 2, 3, 4}, 4) {
			e, place := spelled(table, at)
			l, right := told[fmt.Sprintf("%q %v", table, at)]
			if right != (e == api.OK) {
				t.Fatalf("%q %v: error %d, but Table tells it: %v", table, at, e, right)
			}
			if right {
				found++
				checkList(t, table, at, l)
			} else {
				checkUnlisted(t, table, at, e, place)
			}
		}
	}
	if found != len(told) {
		t.Errorf("%d lists of %d", found, len(told))
	}
}

// Promises 8.1, P1, P2, P3: what is wrong, and where.
func TestListTellsWhatIsWrong(t *testing.T) {
	ab, abc := []string{"a", "b"}, []string{"a", "b", "c"}
	for _, x := range []struct {
		table []string
		at    []int
		want  api.Errno
		place int
	}{
		{[]string{"b", "b"}, []int{0, 1}, api.ErrTwice, 1},
		{[]string{"", ""}, []int{0, 1}, api.ErrTwice, 1},
		{[]string{"a", "b", "c", "b", "a"}, []int{0, 1, 2, 3, 4}, api.ErrTwice, 3},
		{[]string{"a", "b", "c", "a", "b"}, []int{0, 1, 2, 3, 4}, api.ErrTwice, 3},
		{[]string{"a", "b", "c", "c"}, []int{0, 1, 2, 2}, api.ErrTwice, 3},
		{[]string{"a", "a", "a"}, nil, api.ErrTwice, 1},
		{[]string{"\xff", "\xfe", "\xff"}, []int{0, 1, 2}, api.ErrTwice, 2},
		// A text twice is told ahead of all that is wrong with numbers.
		{[]string{"a", "b", "b"}, []int{-1}, api.ErrTwice, 2},
		{[]string{"a", "b", "b"}, []int{9}, api.ErrTwice, 2},
		{[]string{"a", "b", "b"}, []int{1}, api.ErrTwice, 2},
		{[]string{"a", "b", "b"}, []int{0}, api.ErrTwice, 2},

		{nil, []int{0}, api.ErrRange, 0},
		{nil, []int{-1}, api.ErrRange, 0},
		{[]string{}, []int{1, 0}, api.ErrRange, 0},
		{[]string{"a"}, []int{2}, api.ErrRange, 0},
		{[]string{"a"}, []int{1}, api.ErrRange, 0},
		{[]string{"a"}, []int{-1}, api.ErrRange, 0},
		{[]string{"a"}, []int{math.MinInt}, api.ErrRange, 0},
		{[]string{"a"}, []int{math.MaxInt}, api.ErrRange, 0},
		{[]string{"a"}, []int{0, 1}, api.ErrRange, 1},
		{[]string{"a"}, []int{0, -1}, api.ErrRange, 1},
		{ab, []int{0, 1, 0, 2}, api.ErrRange, 3},
		{ab, []int{0, 1, 1, -2}, api.ErrRange, 3},
		// No text, and above how many were told of: there is none.
		{ab, []int{2}, api.ErrRange, 0},
		{ab, []int{0, 3}, api.ErrRange, 1},

		{ab, []int{1}, api.ErrFalse, 0},
		{ab, []int{1, 0}, api.ErrFalse, 0},
		{abc, []int{2, 1, 0}, api.ErrFalse, 0},
		{abc, []int{0, 2, 1}, api.ErrFalse, 1},
		{abc, []int{0, 0, 2}, api.ErrFalse, 2},
		{abc, []int{0, 0, 0, 2, 1}, api.ErrFalse, 3},
		{[]string{"a", "b", "c", "d"}, []int{0, 1, 1, 0, 3}, api.ErrFalse, 4},
		// The first number that is wrong is told.
		{ab, []int{1, 2}, api.ErrFalse, 0},
		{ab, []int{2, 1}, api.ErrRange, 0},
		{abc, []int{0, 2, -1, 3}, api.ErrFalse, 1},
		{abc, []int{0, -1, 2}, api.ErrRange, 1},

		{[]string{"a"}, nil, api.ErrNone, -1},
		{[]string{""}, []int{}, api.ErrNone, -1},
		{ab, []int{0}, api.ErrNone, -1},
		{ab, []int{0, 0, 0}, api.ErrNone, -1},
		{abc, nil, api.ErrNone, -1},
		{abc, []int{0, 1, 0, 1}, api.ErrNone, -1},
	} {
		checkUnlisted(t, x.table, x.at, x.want, x.place)
	}
}

// Promises 8.1, P1: very many texts, and one told of very often.
func TestVeryMany(t *testing.T) {
	const n = 1 << 17
	var l, table []string
	var at []int
	for i := range n {
		s := fmt.Sprint(i % (n / 2))
		l = append(l, s)
		at = append(at, i%(n/2))
		if i < n/2 {
			table = append(table, s)
		}
	}
	gotTable, gotAt := keys.Table(l)
	if !slices.Equal(gotTable, table) || !slices.Equal(gotAt, at) {
		t.Errorf("Table of %d texts has %d, and %d numbers", n, len(gotTable), len(gotAt))
	}
	got, err := keys.List(table, at)
	if !slices.Equal(got, l) || err != nil {
		t.Errorf("List of %d numbers has %d texts, %v", n, len(got), err)
	}
	checkTable(t, slices.Repeat([]string{"a"}, n), []string{"a"}, make([]int, n))
	checkUnlisted(t, append(table, "0"), at, api.ErrTwice, n/2)
	checkUnlisted(t, table, append(at, n/2), api.ErrRange, n)
	checkUnlisted(t, append(table, "more"), at, api.ErrNone, -1)
}

// Promise P4: no list is written into, nor what stands behind its length.
func TestListsStayAsTheyAre(t *testing.T) {
	l, table, at := []string{"b", "a", "b", "z", "y"}, []string{"b", "a", "z", "y"}, []int{0, 1, 0, 7, 8}
	checkTable(t, l[:3], []string{"b", "a"}, []int{0, 1, 0})
	checkList(t, table[:2], at[:3], []string{"b", "a", "b"})
	checkUnlisted(t, table[:3], at[:3], api.ErrNone, -1)
	checkUnlisted(t, table[:2], at[:4], api.ErrRange, 3)
	if !slices.Equal(l, []string{"b", "a", "b", "z", "y"}) || !slices.Equal(table, []string{"b", "a", "z", "y"}) || !slices.Equal(at, []int{0, 1, 0, 7, 8}) {
		t.Errorf("lists are %q, %q and %v now", l, table, at)
	}
}

// Promise P4: what comes out is the caller's, and nothing that was handed in is kept.
func TestAnswersAreFresh(t *testing.T) {
	bytes := []byte("ab")
	a, b := unsafe.String(&bytes[0], 1), unsafe.String(&bytes[1], 1)
	l, table, at := []string{a, b, a}, []string{a, b}, []int{0, 1, 0}
	firstTable, firstAt := keys.Table(l)
	secondTable, secondAt := keys.Table(l)
	firstList, _ := keys.List(table, at)
	secondList, _ := keys.List(table, at)
	firstTable[0], firstAt[0], firstList[0] = "other", 7, "other"
	clear(bytes)
	clear(l)
	clear(table)
	clear(at)
	if !slices.Equal(secondTable, []string{"a", "b"}) || !slices.Equal(secondAt, []int{0, 1, 0}) {
		t.Errorf("Table's answers are %q, %v now", secondTable, secondAt)
	}
	if !slices.Equal(secondList, []string{"a", "b", "a"}) || firstList[2] != "a" {
		t.Errorf("List's answers are %q and %q now", firstList, secondList)
	}
}

// Promise P4: what a call answers hangs on its arguments alone.
func TestNothingIsKept(t *testing.T) {
	for range 3 {
		checkTable(t, []string{"b", "a"}, []string{"b", "a"}, []int{0, 1})
		checkTable(t, []string{"a", "b"}, []string{"a", "b"}, []int{0, 1})
		checkList(t, []string{"b", "a"}, []int{0, 1}, []string{"b", "a"})
		checkUnlisted(t, []string{"a", "a"}, nil, api.ErrTwice, 1)
		checkList(t, []string{"a"}, []int{0}, []string{"a"})
	}
}
