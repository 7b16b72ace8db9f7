package ident_test

import (
	"math"
	"slices"
	"testing"

	"packtrain/api"
	"packtrain/ident"
)

// id is when, and by whom.
func id(time, replica int) api.Id { return api.Id{Time: time, Replica: replica} }

// at is an entry.
func at(replica, time int) api.Entry { return api.Entry{Replica: replica, Time: time} }

// edges are numbers around all bounds, rising.
var edges = []int{math.MinInt, math.MinInt + 1, -1 << 40, -201, -2, -1, 0, 1, 2, 100, 199, 200, 201, 1<<40 - 1, 1 << 40, 1<<40 + 1, math.MaxInt - 1, math.MaxInt}

// Promise 7.1: ids at the bounds, and beyond them.
func TestRightOfKnownIds(t *testing.T) {
	for _, x := range []struct {
		time, replica int
		want          bool
	}{
		{1, 0, true}, {1, 200, true}, {1 << 40, 0, true}, {1 << 40, 200, true}, {7, 3, true}, {201, 100, true},
		{0, 0, false}, {0, 3, false}, {0, 200, false}, {-1, 3, false}, {math.MinInt, 3, false},
		{1<<40 + 1, 0, false}, {1<<40 + 1, 200, false}, {math.MaxInt, 3, false},
		{1, -1, false}, {1 << 40, -1, false}, {1, 201, false}, {1 << 40, 201, false}, {7, math.MinInt, false}, {7, math.MaxInt, false},
		{0, -1, false}, {0, 201, false}, {1<<40 + 1, -1, false}, {1<<40 + 1, 201, false},
	} {
		if ident.Right(id(x.time, x.replica)) != x.want {
			t.Errorf("Right(%d, %d) = %v", x.time, x.replica, !x.want)
		}
	}
}

// Promises 7.1, P1: each time and replica around the bounds.
func TestRightOfAllEdges(t *testing.T) {
	// Listed, not reckoned: those of the edges that fit.
	times, replicas := []int{1, 2, 100, 199, 200, 201, 1<<40 - 1, 1 << 40}, []int{0, 1, 2, 100, 199, 200}
	for _, time := range edges {
		for _, replica := range edges {
			want := slices.Contains(times, time) && slices.Contains(replicas, replica)
			if ident.Right(id(time, replica)) != want {
				t.Errorf("Right(%d, %d) = %v", time, replica, !want)
			}
		}
	}
}

// checkCompare asks for the order of two ids, both ways.
func checkCompare(t *testing.T, a, b api.Id, want int) {
	t.Helper()
	if n, m := ident.Compare(a, b), ident.Compare(b, a); n != want || m != -want {
		t.Errorf("Compare of %v and %v = %d, and %d the other way round; want %d, and %d", a, b, n, m, want, -want)
	}
}

// Promise 7.1: by time, then by replica.
func TestCompareOfKnownIds(t *testing.T) {
	checkCompare(t, id(1, 2), id(2, 0), -1)
	checkCompare(t, id(1, 0), id(2, 2), -1)
	checkCompare(t, id(1, 2), id(2, 2), -1)
	checkCompare(t, id(2, 0), id(2, 1), -1)
	checkCompare(t, id(2, 0), id(2, 200), -1)
	checkCompare(t, id(2, 1), id(2, 1), 0)
	checkCompare(t, id(0, 0), id(0, 0), 0)
	checkCompare(t, id(3, 0), id(2, 1), 1)
	checkCompare(t, id(1<<40, 0), id(1<<40-1, 200), 1)
}

// Promises 7.1, P1: ids of all times and replicas around the bounds, put in order.
func TestCompareOfAllEdges(t *testing.T) {
	var rising []api.Id
	for _, time := range edges {
		for _, replica := range edges {
			rising = append(rising, id(time, replica))
		}
	}
	for i, a := range rising {
		for j, b := range rising[i:] {
			checkCompare(t, a, b, max(-1, -j))
		}
	}
}

// checkWithin asks whether an id is behind from, and known by have.
func checkWithin(t *testing.T, x api.Id, from, have []api.Entry, want bool) {
	t.Helper()
	if ident.Within(x, from, have) != want {
		t.Errorf("Within(%v, %v, %v) = %v", x, from, have, !want)
	}
}

// Promise 7.1: above what one vector knows, and not above what the other one does.
func TestWithinKnownVectors(t *testing.T) {
	from := []api.Entry{at(1, 4), at(3, 5), at(7, 2)}
	have := []api.Entry{at(0, 1), at(1, 6), at(3, 5), at(4, 1<<40), at(7, 3)}
	for _, x := range []struct {
		replica, least, most int // most below least: none is within
	}{
		{0, 1, 1}, {1, 5, 6}, {2, 1, 0}, {3, 6, 5}, {4, 1, 1 << 40}, {5, 1, 0}, {7, 3, 3}, {200, 1, 0},
	} {
		for _, time := range append(edges, 3, 4, 5, 6, 7) {
			checkWithin(t, id(time, x.replica), from, have, x.least <= time && time <= x.most)
		}
	}
	for _, time := range edges {
		checkWithin(t, id(time, 1), nil, nil, false)
		checkWithin(t, id(time, 1), have, nil, false)
		checkWithin(t, id(time, 1), have, have, false)
		checkWithin(t, id(time, 1), have, from, false)
		checkWithin(t, id(time, 1), nil, have, 1 <= time && time <= 6)
		checkWithin(t, id(time, 1), []api.Entry{}, []api.Entry{at(1, 1)}, time == 1)
	}
}

// Promises 7.1, 6.1, P1: of lists that aren't vectors the first entry of the replica counts, whatever it says.
func TestWithinOtherLists(t *testing.T) {
	from := []api.Entry{at(9, 9), at(1, 4), at(1, 2), at(1, 7), at(-5, -3), at(201, math.MinInt)}
	have := []api.Entry{at(1, 6), at(1, 9), at(0, 5), at(1, 1), at(-5, 0), at(201, math.MaxInt)}
	for _, x := range []struct {
		time, replica int
		want          bool
	}{
		{2, 1, false}, {3, 1, false}, {4, 1, false}, {5, 1, true}, {6, 1, true}, {7, 1, false}, {8, 1, false}, {9, 1, false},
		{0, 0, false}, {1, 0, true}, {5, 0, true}, {6, 0, false}, {9, 9, false}, {10, 9, false},
		{-3, -5, false}, {-2, -5, true}, {0, -5, true}, {1, -5, false},
		{math.MinInt, 201, false}, {math.MinInt + 1, 201, true}, {0, 201, true}, {math.MaxInt, 201, true},
	} {
		checkWithin(t, id(x.time, x.replica), from, have, x.want)
	}
	checkWithin(t, id(0, 2), []api.Entry{at(2, -1)}, nil, true)
	checkWithin(t, id(1<<40+1, 2), nil, []api.Entry{at(2, math.MaxInt)}, true)
}

// Promise 7.1: each time of two replicas that either vector knows, or doesn't.
func TestWithinEachTime(t *testing.T) {
	list := func(n int) []api.Entry {
		var l []api.Entry
		for i, time := range []int{n % 4, n / 4} {
			if time > 0 {
				l = append(l, at(2*i+1, time))
			}
		}
		return l
	}
	for n := range 16 {
		for m := range 16 {
			for time := -1; time < 6; time++ {
				checkWithin(t, id(time, 1), list(n), list(m), n%4 < time && time <= m%4)
				checkWithin(t, id(time, 2), list(n), list(m), false)
				checkWithin(t, id(time, 3), list(n), list(m), n/4 < time && time <= m/4)
			}
		}
	}
}

// Promise P4: no list is written into, nor what stands behind its length.
func TestListsStayAsTheyAre(t *testing.T) {
	from, have := []api.Entry{at(1, 4), at(0, 2), at(3, 3)}, []api.Entry{at(1, 6), at(0, 9), at(3, 4)}
	checkWithin(t, id(5, 1), from[:2], have[:2], true)
	checkWithin(t, id(4, 3), from[:2], have[:2], false)
	if !slices.Equal(from, []api.Entry{at(1, 4), at(0, 2), at(3, 3)}) || !slices.Equal(have, []api.Entry{at(1, 6), at(0, 9), at(3, 4)}) {
		t.Errorf("entries are %v and %v now", from, have)
	}
}
