package log_test

import (
	"errors"
	"fmt"
	"math"
	"reflect"
	"slices"
	"sort"
	"strings"
	"testing"
	"unsafe"

	"packtrain/api"
	"packtrain/batch"
	"packtrain/frame"
	"packtrain/log"
	"packtrain/old"
	"packtrain/plain"
	"packtrain/store"
)

// last is the greatest time that there is.
const last = 1 << 40

// at is an entry.
func at(replica, time int) api.Entry { return api.Entry{Replica: replica, Time: time} }

// of is a list of entries.
func of(l ...api.Entry) []api.Entry { return l }

// many are so many entries of replicas from one on, known to a time.
func many(n, first, time int) []api.Entry {
	var l []api.Entry
	for i := range n {
		l = append(l, at(first+i, time))
	}
	return l
}

// put, drop, add and insert are writes without an id.
func put(key, value string) api.Write { return api.Write{Kind: api.Put, Key: key, Value: value} }
func drop(key string) api.Write       { return api.Write{Kind: api.Drop, Key: key} }
func add(key string, n int) api.Write { return api.Write{Kind: api.Add, Key: key, N: n} }
func insert(key, value string, n int) api.Write {
	return api.Write{Kind: api.Insert, Key: key, Value: value, N: n}
}

// by is a write of an id.
func by(time, replica int, w api.Write) api.Write {
	w.Id = api.Id{Time: time, Replica: replica}
	return w
}

// v is a Put of an id; of another id it is another one.
func v(time, replica int) api.Write {
	return by(time, replica, put("k", fmt.Sprint(time, " by ", replica)))
}

// row are so many writes of a replica, from a time on.
func row(n, time, replica int) []api.Write {
	var l []api.Write
	for i := range n {
		l = append(l, v(time+i, replica))
	}
	return l
}

// bound is a batch from one vector to another, with some writes.
func bound(from, have []api.Entry, l ...api.Write) api.Batch {
	return api.Batch{From: from, Have: have, Writes: l}
}

// x is a text of so many bytes.
func x(n int) string { return strings.Repeat("x", n) }

// show is something as a text that isn't too long.
func show(l any) string {
	s := fmt.Sprintf("%+v", l)
	if len(s) > 400 {
		return s[:400] + " .."
	}
	return s
}

// made is a log of a replica, with nothing known.
func made(t *testing.T, replica int) *log.Log {
	t.Helper()
	l, err := log.New(replica)
	if err != nil || l == nil {
		t.Fatalf("New(%d) = %v, %v", replica, l, err)
	}
	return l
}

// filled is a log of a replica that knows so far, and took writes in: batch by batch, each from nothing on.
func filled(t *testing.T, replica int, have []api.Entry, l ...api.Write) *log.Log {
	t.Helper()
	f := made(t, replica)
	take(t, f, bound(nil, have))
	for part := range slices.Chunk(l, api.MaxWrites) {
		take(t, f, bound(nil, have, part...))
	}
	return f
}

// take takes a batch in, which is to go well.
func take(t *testing.T, l *log.Log, b api.Batch) {
	t.Helper()
	if _, err := l.Accept(b); err != nil {
		t.Fatalf("Accept(%s) = %v", show(b), err)
	}
}

// sameCells tells whether two lists have the same cells; a list that is empty may be nil or not.
func sameCells(a, b []api.Cell) bool {
	return slices.EqualFunc(a, b, func(c, d api.Cell) bool {
		return c.Key == d.Key && c.Has == d.Has && c.Text == d.Text && c.Sum == d.Sum && slices.Equal(c.List, d.List)
	})
}

// checkState asks for all that a log tells.
func checkState(t *testing.T, name string, l *log.Log, have []api.Entry, writes ...api.Write) {
	t.Helper()
	if got := l.Have(); !slices.Equal(got, have) {
		t.Errorf("%s: Have() = %s; want %s", name, show(got), show(have))
	}
	if got := l.Writes(); !slices.Equal(got, writes) {
		t.Errorf("%s: Writes() = %s; want %s", name, show(got), show(writes))
	}
	want, err := store.Of(writes)
	if got := l.Cells(); err != nil || !sameCells(got, want) {
		t.Errorf("%s: Cells() = %s; want %s, %v", name, show(got), show(want), err)
	}
}

// checkLocal asks for the id of a write.
func checkLocal(t *testing.T, name string, l *log.Log, w api.Write, time, replica int) {
	t.Helper()
	if id, err := l.Local(w); err != nil || id != (api.Id{Time: time, Replica: replica}) {
		t.Errorf("%s: Local(%s) = %v, %v; want time %d by %d", name, show(w), id, err, time, replica)
	}
}

// checkNotLocal asks for an error without a place, no id with it, and that nothing is changed then.
func checkNotLocal(t *testing.T, name string, l *log.Log, w api.Write, want api.Errno) {
	t.Helper()
	have, writes := l.Have(), l.Writes()
	id, err := l.Local(w)
	if e, place := plain.Place(err); e != want || place != -1 || id != (api.Id{}) {
		t.Errorf("%s: Local(%s) = %v, error %d at %d; want error %d", name, show(w), id, e, place, want)
	}
	checkState(t, name, l, have, writes...)
}

// checkAccept asks for how many writes of a batch are new.
func checkAccept(t *testing.T, name string, l *log.Log, b api.Batch, want int) {
	t.Helper()
	if n, err := l.Accept(b); err != nil || n != want {
		t.Errorf("%s: Accept(%s) = %d, %v; want %d", name, show(b), n, err, want)
	}
}

// checkNotAccept asks for an error, its place (-1: none), a 0 with it, and that nothing is changed then.
func checkNotAccept(t *testing.T, name string, l *log.Log, b api.Batch, want api.Errno, at int) {
	t.Helper()
	have, writes := l.Have(), l.Writes()
	n, err := l.Accept(b)
	if e, place := plain.Place(err); e != want || place != at || n != 0 {
		t.Errorf("%s: Accept(%s) = %d, error %d at %d; want error %d at %d", name, show(b), n, e, place, want, at)
	}
	checkState(t, name, l, have, writes...)
}

// checkSince asks for a batch from a vector on, which is right, and that nothing is changed then.
func checkSince(t *testing.T, name string, l *log.Log, from, have []api.Entry, writes ...api.Write) {
	t.Helper()
	known, there := l.Have(), l.Writes()
	b, err := l.Since(from)
	if want := bound(from, have, writes...); err != nil || !batch.Same(b, want) {
		t.Errorf("%s: Since(%s) = %s, %v; want %s", name, show(from), show(b), err, show(want))
	}
	if err := batch.Right(b); err != nil {
		t.Errorf("%s: Since(%s) is wrong: %v", name, show(from), err)
	}
	checkState(t, name, l, known, there...)
}

// checkNotSince asks for an error without a place, no batch with it, and that nothing is changed then.
func checkNotSince(t *testing.T, name string, l *log.Log, from []api.Entry, want api.Errno) {
	t.Helper()
	have, writes := l.Have(), l.Writes()
	b, err := l.Since(from)
	if e, place := plain.Place(err); e != want || place != -1 || !batch.Same(b, api.Batch{}) {
		t.Errorf("%s: Since(%s) = %s, error %d at %d; want error %d", name, show(from), show(b), e, place, want)
	}
	checkState(t, name, l, have, writes...)
}

// Promises 15.1, P2: a new one of each replica that there is knows nothing, has nothing, and has a batch of nothing.
func TestNewKnowsNothing(t *testing.T) {
	for replica := range 201 {
		l := made(t, replica)
		checkState(t, "new", l, nil)
		checkSince(t, "new", l, nil, nil)
		checkLocal(t, "new", l, put("k", "v"), 1, replica)
	}
}

// Promises 15.1, P2, P3: there is no log of any other replica.
func TestNewTellsOfReplicas(t *testing.T) {
	for _, replica := range []int{-1, 201, -201, 256, 1 << 32, math.MinInt, math.MaxInt} {
		l, err := log.New(replica)
		if e, place := plain.Place(err); e != api.ErrRange || place != -1 || l != nil {
			t.Errorf("New(%d) = %v, error %d at %d; want error 2", replica, l, e, place)
		}
	}
}

// Promise 15.1: writes of one's own, of each kind, one behind the other.
func TestLocalOneBehindTheOther(t *testing.T) {
	l := made(t, 7)
	var want []api.Write
	for i, w := range []api.Write{
		put("k", "v"), add("n", 4), insert("l", "a", 0), drop("k"), put("", ""), add("n", 0), insert("l", "b", 1000),
		put("k", "v"), put("k", "v"), drop("none"), put(x(40), x(300)), add("n", 1<<50), add("n", -1<<50), put("\xff\x00\n", "\x80"),
	} {
		checkLocal(t, "own", l, w, i+1, 7)
		want = append(want, by(i+1, 7, w))
		checkState(t, "own", l, of(at(7, i+1)), want...)
	}
}

// Promise 15.1: the Id that a write has counts for nothing, be it right or not.
func TestLocalGivesTheId(t *testing.T) {
	for _, id := range []api.Id{{Time: 9, Replica: 9}, {Time: 1, Replica: 7}, {Time: last, Replica: 200}, {Time: -1, Replica: -1}, {Time: last + 1, Replica: 201}, {Time: math.MaxInt, Replica: math.MinInt}} {
		l := made(t, 7)
		w := put("k", "v")
		w.Id = id
		checkLocal(t, "first", l, w, 1, 7)
		checkLocal(t, "second", l, w, 2, 7)
		checkState(t, "both", l, of(at(7, 2)), by(1, 7, put("k", "v")), by(2, 7, put("k", "v")))
	}
}

// Promise 15.1: the time is one above all that Have knows, of whichever replica, whether there are writes of it or not.
func TestLocalIsLaterThanAll(t *testing.T) {
	for _, c := range []struct {
		name string
		have []api.Entry
		l    []api.Write
		time int
		want []api.Entry
	}{
		{"another one's writes", of(at(3, 2)), []api.Write{v(1, 3), v(2, 3)}, 3, of(at(3, 2), at(7, 3))},
		{"another one's, without writes", of(at(3, 20)), nil, 21, of(at(3, 20), at(7, 21))},
		{"another one's, further than its writes", of(at(3, 20)), []api.Write{v(2, 3)}, 21, of(at(3, 20), at(7, 21))},
		{"one's own, without writes", of(at(7, 20)), nil, 21, of(at(7, 21))},
		{"one's own, sent by another one", of(at(7, 5)), []api.Write{v(4, 7)}, 6, of(at(7, 6))},
		{"the first one's", of(at(0, 9), at(5, 1), at(9, 2)), nil, 10, of(at(0, 9), at(5, 1), at(7, 10), at(9, 2))},
		{"one's between", of(at(0, 1), at(5, 9), at(9, 2)), nil, 10, of(at(0, 1), at(5, 9), at(7, 10), at(9, 2))},
		{"the last one's", of(at(0, 1), at(5, 2), at(9, 9)), nil, 10, of(at(0, 1), at(5, 2), at(7, 10), at(9, 9))},
		{"one's own", of(at(5, 2), at(7, 9), at(9, 3)), nil, 10, of(at(5, 2), at(7, 10), at(9, 3))},
		{"one's own is behind", of(at(5, 20), at(7, 9), at(9, 3)), nil, 21, of(at(5, 20), at(7, 21), at(9, 3))},
		{"the same time of all", many(8, 0, 9), nil, 10, append(many(7, 0, 9), at(7, 10))},
	} {
		l := filled(t, 7, c.have, c.l...)
		checkLocal(t, c.name, l, put("k", "v"), c.time, 7)
		want := append(slices.Clone(c.l), by(c.time, 7, put("k", "v")))
		checkState(t, c.name, l, c.want, want...)
		checkLocal(t, c.name, l, add("n", 1), c.time+1, 7)
		if got := l.Writes(); len(got) != len(want)+1 || got[len(want)] != by(c.time+1, 7, add("n", 1)) {
			t.Errorf("%s: Writes() = %s", c.name, show(got))
		}
	}
}

// badWrites are writes, and what is wrong with them, whatever their ids.
var badWrites = []struct {
	name string
	w    api.Write
	want api.Errno
}{
	{"none", api.Write{}, api.ErrArg},
	{"a kind above all", api.Write{Kind: 5, Key: "k"}, api.ErrArg},
	{"a kind below all", api.Write{Kind: -1, Key: "k"}, api.ErrArg},
	{"the greatest kind", api.Write{Kind: math.MaxInt, Key: "k"}, api.ErrArg},
	{"no kind, and a key above the most", api.Write{Kind: 9, Key: x(41)}, api.ErrArg},
	{"a key above the most", put(x(41), "v"), api.ErrLimit},
	{"a key above the most, of a Drop", drop(x(41)), api.ErrLimit},
	{"a value above the most", put("k", x(301)), api.ErrLimit},
	{"a value above the most, of an Insert", insert("k", x(301), 0), api.ErrLimit},
	{"a value of a Drop", api.Write{Kind: api.Drop, Key: "k", Value: "v"}, api.ErrForm},
	{"a value of an Add", api.Write{Kind: api.Add, Key: "k", Value: "v", N: 1}, api.ErrForm},
	{"a number of a Put", api.Write{Kind: api.Put, Key: "k", Value: "v", N: 1}, api.ErrForm},
	{"a number of a Drop", api.Write{Kind: api.Drop, Key: "k", N: -1}, api.ErrForm},
	{"a number above the most", add("k", 1<<50+1), api.ErrRange},
	{"the least number", add("k", math.MinInt), api.ErrRange},
	{"a place below 0", insert("k", "v", -1), api.ErrRange},
	{"a place above the most", insert("k", "v", 1001), api.ErrRange},
}

// full are 300 writes of replica 3, and how far it is known then.
func full() ([]api.Entry, []api.Write) { return of(at(3, 300)), row(300, 1, 3) }

// Promises 15.1, P2, P3: what is wrong with a write is told, and nothing is written then; be there nothing, something, all that may be, or no more replicas.
func TestLocalTellsWhatIsWrong(t *testing.T) {
	have, all := full()
	logs := []*log.Log{
		made(t, 7),
		filled(t, 7, of(at(3, 2)), v(1, 3), v(2, 3)),
		filled(t, 7, have, all...),
		filled(t, 7, many(16, 20, 1)),
	}
	for _, l := range logs {
		for _, b := range badWrites {
			checkNotLocal(t, b.name, l, b.w, b.want)
			checkNotLocal(t, b.name+", of a right id", l, by(1, 1, b.w), b.want)
		}
	}
	checkLocal(t, "right, behind all", logs[0], put("k", "v"), 1, 7)
	checkLocal(t, "right, behind all", logs[1], put("k", "v"), 3, 7)
}

// Promise 15.1: there is no time above MaxTime.
func TestLocalTellsOfTime(t *testing.T) {
	for _, replica := range []int{0, 3, 7, 9, 200} {
		l := filled(t, 7, of(at(replica, last-1)))
		checkLocal(t, "the last time", l, put("k", "v"), last, 7)
		checkNotLocal(t, "behind one's own last time", l, put("k", "v"), api.ErrLimit)
		l = filled(t, 7, of(at(replica, last)))
		checkNotLocal(t, "behind the last time", l, put("k", "v"), api.ErrLimit)
		for _, b := range badWrites {
			checkNotLocal(t, b.name+", behind the last time", l, b.w, api.ErrLimit)
		}
	}
}

// Promise 15.1: there are no more than MaxLog writes, whoever wrote them.
func TestLocalTellsOfFull(t *testing.T) {
	have, all := full()
	l := filled(t, 7, have, all...)
	checkNotLocal(t, "300 of another one", l, put("k", "v"), api.ErrFull)
	checkNotLocal(t, "300 of another one", l, drop("k"), api.ErrFull)

	l = filled(t, 7, have, all[1:]...)
	checkLocal(t, "299 of another one", l, put("k", "v"), 301, 7)
	checkState(t, "300 of both", l, of(at(3, 300), at(7, 301)), append(slices.Clone(all[1:]), by(301, 7, put("k", "v")))...)
	checkNotLocal(t, "300 of both", l, put("k", "v"), api.ErrFull)

	l = made(t, 7)
	for i := range 300 {
		checkLocal(t, "one's own", l, add("n", i), i+1, 7)
	}
	checkNotLocal(t, "300 of one's own", l, put("k", "v"), api.ErrFull)
}

// Promise 15.1: there are no more than MaxEntries replicas in Have.
func TestLocalTellsOfEntries(t *testing.T) {
	l := filled(t, 7, many(16, 20, 1))
	checkNotLocal(t, "16 other ones", l, put("k", "v"), api.ErrLimit)
	checkNotLocal(t, "16 other ones", l, drop("k"), api.ErrLimit)
	l = filled(t, 7, many(15, 20, 1))
	checkLocal(t, "15 other ones", l, put("k", "v"), 2, 7)
	checkState(t, "15 other ones", l, append(of(at(7, 2)), many(15, 20, 1)...), by(2, 7, put("k", "v")))
	l = filled(t, 35, many(16, 20, 1))
	checkLocal(t, "16, and one's own is one of them", l, put("k", "v"), 2, 35)
	checkState(t, "16, and one's own is one of them", l, append(many(15, 20, 1), at(35, 2)), by(2, 35, put("k", "v")))
}

// Promises 15.1, P3: of several things the one that is told first.
func TestLocalTellsTheFirstThing(t *testing.T) {
	_, all := full()
	l := filled(t, 7, append(of(at(3, 300)), many(15, 20, 1)...), all...)
	checkNotLocal(t, "full, and 16 other ones", l, put("k", "v"), api.ErrFull)
	for _, b := range badWrites {
		checkNotLocal(t, b.name+", full, and 16 other ones", l, b.w, b.want)
	}
	l = filled(t, 7, append(of(at(3, last)), many(15, 20, 1)...), all...)
	checkNotLocal(t, "behind the last time, full, and 16 other ones", l, put("k", "v"), api.ErrLimit)
	for _, b := range badWrites {
		checkNotLocal(t, b.name+", behind the last time, full, and 16 other ones", l, b.w, api.ErrLimit)
	}
	l = filled(t, 7, of(at(3, last)), all...)
	checkNotLocal(t, "behind the last time, and full", l, put("k", "v"), api.ErrLimit)
}

// Promise 15.1: batches, one behind the other: how many weren't there, what is known then, and all, in order.
func TestAcceptKnownBatches(t *testing.T) {
	l := made(t, 1)
	checkAccept(t, "nothing", l, api.Batch{}, 0)
	checkState(t, "nothing", l, nil)
	checkAccept(t, "two of one", l, bound(nil, of(at(3, 5)), v(2, 3), v(5, 3)), 2)
	checkState(t, "two of one", l, of(at(3, 5)), v(2, 3), v(5, 3))
	checkAccept(t, "the same again", l, bound(nil, of(at(3, 5)), v(2, 3), v(5, 3)), 0)
	checkState(t, "the same again", l, of(at(3, 5)), v(2, 3), v(5, 3))
	checkAccept(t, "of another one, ahead, between and behind", l, bound(nil, of(at(2, 9)), v(1, 2), v(3, 2), v(9, 2)), 3)
	checkState(t, "of another one", l, of(at(2, 9), at(3, 5)), v(1, 2), v(2, 3), v(3, 2), v(5, 3), v(9, 2))
	checkAccept(t, "of a third one, at the same times", l, bound(of(at(2, 4)), of(at(0, 5), at(2, 4), at(3, 5)), v(1, 0), v(2, 3), v(5, 0), v(5, 3)), 2)
	want := []api.Write{v(1, 0), v(1, 2), v(2, 3), v(3, 2), v(5, 0), v(5, 3), v(9, 2)}
	checkState(t, "of a third one", l, of(at(0, 5), at(2, 9), at(3, 5)), want...)
	checkAccept(t, "from what is known on, further", l, bound(of(at(0, 5), at(2, 9), at(3, 5)), of(at(0, 5), at(2, 12), at(3, 5), at(4, 1)), v(1, 4), v(10, 2)), 2)
	want = []api.Write{v(1, 0), v(1, 2), v(1, 4), v(2, 3), v(3, 2), v(5, 0), v(5, 3), v(9, 2), v(10, 2)}
	checkState(t, "from what is known on", l, of(at(0, 5), at(2, 12), at(3, 5), at(4, 1)), want...)
	checkAccept(t, "from less than is known, to less", l, bound(of(at(2, 8)), of(at(2, 10)), v(9, 2), v(10, 2)), 0)
	checkAccept(t, "no writes, and further", l, bound(of(at(2, 12)), of(at(2, 12), at(200, last))), 0)
	checkState(t, "no writes", l, of(at(0, 5), at(2, 12), at(3, 5), at(4, 1), at(200, last)), want...)
	checkAccept(t, "nothing, behind all", l, api.Batch{}, 0)
	checkState(t, "nothing, behind all", l, of(at(0, 5), at(2, 12), at(3, 5), at(4, 1), at(200, last)), want...)
}

// Promise 15.1: a write that isn't there is taken in, though Have knows as far already.
func TestAcceptWhatIsSaidToBeKnown(t *testing.T) {
	l := filled(t, 1, of(at(3, 9)), v(5, 3))
	checkAccept(t, "behind what was known", l, bound(nil, of(at(3, 9)), v(4, 3), v(5, 3), v(6, 3)), 2)
	checkState(t, "behind what was known", l, of(at(3, 9)), v(4, 3), v(5, 3), v(6, 3))
	checkAccept(t, "one's own, from another one", l, bound(nil, of(at(1, 2)), v(1, 1), v(2, 1)), 2)
	checkState(t, "one's own", l, of(at(1, 2), at(3, 9)), v(1, 1), v(2, 1), v(4, 3), v(5, 3), v(6, 3))
	checkLocal(t, "one's own, later", l, put("k", "v"), 10, 1)
	checkAccept(t, "one's own, once it was written here", l, bound(nil, of(at(1, 10)), v(2, 1), by(10, 1, put("k", "v"))), 0)
}

// Promise 15.1: the same writes in batches that are parted anywhere, and come in any order that leaves no gap, and twice.
func TestAcceptInParts(t *testing.T) {
	all := []api.Write{v(1, 0), v(1, 5), v(2, 5), v(3, 0), v(3, 9), v(4, 5), v(5, 0), v(5, 5), v(5, 9), v(6, 200)}
	have := of(at(0, 5), at(5, 5), at(9, 5), at(200, 6))
	whole := filled(t, 1, have, all...)
	for first := range len(all) {
		for second := first; second < len(all); second++ {
			l := made(t, 1)
			sum := 0
			for _, part := range [][]api.Write{all[first:second], all[second:], all[:first], all[first:], all} {
				there := len(l.Writes())
				n, err := l.Accept(bound(nil, have, part...))
				if err != nil || n != len(l.Writes())-there {
					t.Fatalf("parted at %d and %d: Accept = %d, %v, and %d of %d are there", first, second, n, err, there, len(l.Writes()))
				}
				sum += n
			}
			if sum != len(all) {
				t.Errorf("parted at %d and %d: %d weren't there", first, second, sum)
			}
			checkState(t, "parts", l, whole.Have(), all...)
		}
	}
}

// bad is a batch, and what batch.Right tells of it, and where.
type bad struct {
	name string
	b    api.Batch
	want api.Errno
	at   int
}

// badBatches are batches that are wrong, whatever is known.
func badBatches() []bad {
	wide := of(at(3, 99), at(5, 99))
	l := []bad{
		{"From has more than 16 entries", bound(many(17, 0, 1), many(16, 0, 1)), api.ErrLimit, -1},
		{"From has a time of 0", bound(of(at(3, 0)), wide), api.ErrRange, -1},
		{"From has a replica above all", bound(of(at(201, 1)), wide), api.ErrRange, -1},
		{"From isn't in order", bound(of(at(5, 1), at(3, 1)), wide), api.ErrOrder, -1},
		{"Have has more than 16 entries", bound(nil, many(17, 0, 1)), api.ErrLimit, -1},
		{"Have has a time above the most", bound(nil, of(at(3, last+1))), api.ErrRange, -1},
		{"Have isn't in order", bound(nil, of(at(5, 1), at(5, 1))), api.ErrOrder, -1},
		{"Have doesn't cover From", bound(of(at(3, 2)), of(at(3, 1))), api.ErrFalse, -1},
		{"From is of another replica", bound(of(at(3, 2)), of(at(4, 9))), api.ErrFalse, -1},
		{"more than 60 writes", bound(nil, of(at(3, 99)), row(61, 1, 3)...), api.ErrLimit, -1},
		{"no id", bound(nil, wide, v(1, 3), put("k", "v")), api.ErrRange, 1},
		{"not later", bound(nil, wide, v(1, 3), v(1, 5), v(1, 5)), api.ErrOrder, 2},
		{"earlier", bound(nil, wide, v(2, 3), v(1, 5)), api.ErrOrder, 1},
		{"not behind From", bound(of(at(3, 1)), wide, v(1, 3)), api.ErrState, 0},
		{"above Have", bound(nil, of(at(3, 9)), v(1, 3), v(10, 3)), api.ErrState, 1},
		{"of a replica not in Have", bound(nil, of(at(3, 9)), v(1, 3), v(2, 3), v(3, 4)), api.ErrState, 2},
	}
	for _, c := range badWrites {
		l = append(l, bad{c.name + ", first", bound(nil, wide, by(1, 3, c.w), v(2, 3)), c.want, 0})
		l = append(l, bad{c.name + ", third", bound(nil, wide, v(1, 3), v(2, 3), by(7, 5, c.w)), c.want, 2})
	}
	return l
}

// Promises 15.1, P2, P3: what is wrong with a batch is told ahead of all else, where it is, and nothing is taken in then.
func TestAcceptTellsWhatIsWrong(t *testing.T) {
	have, all := full()
	logs := []*log.Log{
		made(t, 7),
		filled(t, 7, of(at(3, 99)), v(1, 3)),
		filled(t, 7, of(at(3, 99)), by(1, 3, drop("other")), by(2, 3, drop("other"))),
		filled(t, 7, have, all...),
		filled(t, 7, many(16, 20, 1)),
	}
	for _, c := range badBatches() {
		if e, place := plain.Place(batch.Right(c.b)); e != c.want || place != c.at {
			t.Errorf("%s: Right = error %d at %d; want %d at %d", c.name, e, place, c.want, c.at)
		}
		for _, l := range logs {
			checkNotAccept(t, c.name, l, c.b, c.want, c.at)
		}
	}
}

// Promise 15.1: a gap is told: From knows of something that Have doesn't.
func TestAcceptTellsOfGaps(t *testing.T) {
	for _, c := range []struct {
		name string
		have []api.Entry
		from []api.Entry
		want api.Errno
	}{
		{"nothing is known", nil, of(at(3, 1)), api.ErrOrder},
		{"nothing is known, of two", nil, of(at(3, 1), at(5, 1)), api.ErrOrder},
		{"one less is known", of(at(3, 4)), of(at(3, 5)), api.ErrOrder},
		{"as far", of(at(3, 5)), of(at(3, 5)), api.OK},
		{"further", of(at(3, 6)), of(at(3, 5)), api.OK},
		{"another one is known", of(at(4, 9)), of(at(3, 1)), api.ErrOrder},
		{"the second one isn't known", of(at(3, 9)), of(at(3, 1), at(4, 1)), api.ErrOrder},
		{"the second one is known less", of(at(3, 9), at(4, 1)), of(at(3, 1), at(4, 2)), api.ErrOrder},
		{"the first one is known less", of(at(3, 1), at(4, 9)), of(at(3, 2), at(4, 2)), api.ErrOrder},
		{"both are known as far", of(at(3, 2), at(4, 2)), of(at(3, 2), at(4, 2)), api.OK},
		{"the last time", of(at(3, last-1)), of(at(3, last)), api.ErrOrder},
		{"16, one not as far", append(many(15, 20, 2), at(35, 1)), many(16, 20, 2), api.ErrOrder},
		{"16, as far", many(16, 20, 2), many(16, 20, 2), api.OK},
	} {
		l := filled(t, 7, c.have)
		if c.want == api.OK {
			checkAccept(t, c.name, l, bound(c.from, c.from), 0)
			checkState(t, c.name, l, c.have)
		} else {
			checkNotAccept(t, c.name, l, bound(c.from, c.from), c.want, -1)
		}
	}
	l := filled(t, 7, of(at(3, 4)), v(1, 3))
	further := of(at(3, 9))
	checkNotAccept(t, "writes behind a gap", l, bound(of(at(3, 5)), further, v(6, 3)), api.ErrOrder, -1)
	checkAccept(t, "writes behind none", l, bound(of(at(3, 4)), further, v(6, 3)), 1)
	checkState(t, "writes behind none", l, further, v(1, 3), v(6, 3))
}

// Promise 15.1: no more than MaxEntries replicas are known together.
func TestAcceptTellsOfEntries(t *testing.T) {
	l := filled(t, 7, many(16, 20, 1))
	checkNotAccept(t, "a 17th one", l, bound(nil, of(at(3, 1))), api.ErrLimit, -1)
	checkNotAccept(t, "a 17th one, with 15 that are known", l, bound(many(15, 20, 1), append(of(at(3, 1)), many(15, 20, 1)...), v(1, 3)), api.ErrLimit, -1)
	checkNotAccept(t, "a 17th one, behind the others", l, bound(nil, of(at(200, 1)), v(1, 200)), api.ErrLimit, -1)
	checkNotAccept(t, "32", l, bound(nil, many(16, 40, 1)), api.ErrLimit, -1)
	checkNotAccept(t, "17, most of both", l, bound(nil, many(16, 21, 1)), api.ErrLimit, -1)
	checkAccept(t, "the same ones, further", l, bound(many(16, 20, 1), many(16, 20, 3), v(2, 20), v(3, 35)), 2)
	checkState(t, "the same ones, further", l, many(16, 20, 3), v(2, 20), v(3, 35))
	l = filled(t, 7, many(8, 20, 1))
	checkAccept(t, "8, and 8 more", l, bound(nil, many(8, 28, 2)), 0)
	checkState(t, "8, and 8 more", l, append(many(8, 20, 1), many(8, 28, 2)...))
}

// Promise 15.1: another write of the same id is told, at its number, and the same one isn't.
func TestAcceptTellsOfTwice(t *testing.T) {
	was := insert("k", "v", 4)
	have := of(at(3, 9), at(5, 9))
	others := map[string]api.Write{
		"another kind":  add("k", 4),
		"a Put":         put("k", "v"),
		"a Drop":        drop("k"),
		"another key":   insert("l", "v", 4),
		"no key":        insert("", "v", 4),
		"another value": insert("k", "w", 4),
		"a longer one":  insert("k", "vv", 4),
		"no value":      insert("k", "", 4),
		"another place": insert("k", "v", 5),
		"the place 0":   insert("k", "v", 0),
	}
	for name, w := range others {
		l := filled(t, 7, have, v(1, 3), by(4, 3, was), v(6, 3))
		checkNotAccept(t, name, l, bound(nil, have, by(4, 3, w)), api.ErrTwice, 0)
		checkNotAccept(t, name+", behind new ones", l, bound(nil, have, v(2, 3), v(3, 5), by(4, 3, w)), api.ErrTwice, 2)
		checkNotAccept(t, name+", behind what is there", l, bound(nil, have, v(1, 3), by(4, 3, w), v(5, 3)), api.ErrTwice, 1)
		checkNotAccept(t, name+", and another one", l, bound(nil, have, v(1, 3), by(4, 3, w), by(6, 3, drop("k"))), api.ErrTwice, 1)
		checkAccept(t, name+", at another time", l, bound(nil, have, by(3, 3, w), by(4, 3, was), by(5, 3, w)), 2)
		checkAccept(t, name+", of another replica", l, bound(nil, have, by(4, 3, was), by(4, 5, w)), 1)
		checkState(t, name, l, have, v(1, 3), by(3, 3, w), by(4, 3, was), by(4, 5, w), by(5, 3, w), v(6, 3))
	}
	l := made(t, 7)
	checkLocal(t, "one's own", l, put("k", "v"), 1, 7)
	checkNotAccept(t, "another one of one's own id", l, bound(nil, of(at(7, 1)), by(1, 7, put("k", "w"))), api.ErrTwice, 0)
	checkAccept(t, "one's own", l, bound(nil, of(at(7, 1)), by(1, 7, put("k", "v"))), 0)
}

// Promise 15.1: a write that differs in its kind alone is another one, too.
func TestAcceptTellsOfAnotherKind(t *testing.T) {
	have := of(at(3, 9))
	for _, alike := range [][]api.Write{
		{put("k", "v"), insert("k", "v", 0)},
		{put("k", ""), drop("k"), add("k", 0), insert("k", "", 0)},
		{add("k", 7), insert("k", "", 7)},
	} {
		for _, was := range alike {
			l := filled(t, 7, have, v(1, 3), by(4, 3, was))
			for _, w := range alike {
				if w == was {
					checkAccept(t, "the same kind", l, bound(nil, have, by(4, 3, w)), 0)
				} else {
					checkNotAccept(t, "another kind", l, bound(nil, have, v(1, 3), by(4, 3, w)), api.ErrTwice, 1)
				}
			}
		}
	}
}

// Promise 15.1: there are no more than MaxLog writes; those that are there aren't counted twice.
func TestAcceptTellsOfFull(t *testing.T) {
	have, all := full()
	more := append(slices.Clone(have), at(5, 900))
	l := filled(t, 7, have, all...)
	checkNotAccept(t, "the 301st", l, bound(nil, more, v(900, 5)), api.ErrFull, -1)
	checkNotAccept(t, "the 301st, ahead of all", l, bound(nil, more, v(1, 5)), api.ErrFull, -1)
	checkNotAccept(t, "the 301st, with some that are there", l, bound(nil, more, slices.Concat(all[100:120], []api.Write{v(900, 5)})...), api.ErrFull, -1)
	checkNotAccept(t, "60 more", l, bound(nil, more, row(60, 500, 5)...), api.ErrFull, -1)
	checkAccept(t, "no writes, and further", l, bound(have, more), 0)
	checkAccept(t, "some that are there", l, bound(nil, have, all[100:160]...), 0)
	checkState(t, "300", l, more, all...)

	l = filled(t, 7, have, all[:299]...)
	checkNotAccept(t, "the 300th and the 301st", l, bound(nil, more, v(1, 5), v(900, 5)), api.ErrFull, -1)
	checkAccept(t, "the 300th, with 59 that are there", l, bound(nil, more, slices.Concat(all[200:259], []api.Write{v(900, 5)})...), 1)
	checkState(t, "the 300th", l, more, slices.Concat(all[:299], []api.Write{v(900, 5)})...)

	l = filled(t, 7, have, all[60:]...)
	checkAccept(t, "from 240 to 300", l, bound(nil, have, all[:60]...), 60)
	checkState(t, "from 240 to 300", l, have, all...)
	l = filled(t, 7, have, all[59:]...)
	checkNotAccept(t, "from 241 to 301", l, bound(nil, more, slices.Concat(all[:59], []api.Write{v(60, 5)})...), api.ErrFull, -1)
}

// Promises 15.1, P3: of several things the one that is told first.
func TestAcceptTellsTheFirstThing(t *testing.T) {
	_, all := full()
	entries := append(of(at(3, 300)), many(15, 20, 1)...)
	l := filled(t, 7, entries, all...)
	other := by(1, 3, drop("other"))
	gap := of(at(20, 2))
	for _, c := range []struct {
		name string
		b    api.Batch
		want api.Errno
		at   int
	}{
		{"a wrong write, a gap, a 17th entry, another one of an id, and full", bound(gap, of(at(3, 300), at(20, 2), at(99, 9)), other, v(2, 99), by(3, 99, api.Write{})), api.ErrArg, 2},
		{"a write that isn't within, and a gap", bound(gap, of(at(20, 2), at(99, 9)), v(2, 98)), api.ErrState, 0},
		{"a gap, a 17th entry, another one of an id, and full", bound(gap, of(at(3, 300), at(20, 2), at(99, 9)), other, v(2, 99)), api.ErrOrder, -1},
		{"a gap, another one of an id, and full", bound(gap, of(at(3, 301), at(20, 2)), other, v(301, 3)), api.ErrOrder, -1},
		{"a gap, and full", bound(gap, of(at(3, 301), at(20, 2)), v(301, 3)), api.ErrOrder, -1},
		{"a 17th entry, another one of an id, and full", bound(nil, of(at(3, 300), at(99, 9)), other, v(2, 99)), api.ErrLimit, -1},
		{"a 17th entry, and full", bound(nil, of(at(99, 9)), v(2, 99)), api.ErrLimit, -1},
		{"another one of an id, and full", bound(nil, of(at(3, 301)), other, v(301, 3)), api.ErrTwice, 0},
		{"full, and another one of an id behind", bound(nil, of(at(3, 300), at(20, 9)), v(1, 20), v(2, 20), by(3, 3, drop("other"))), api.ErrTwice, 2},
		{"full", bound(nil, of(at(3, 301)), v(301, 3)), api.ErrFull, -1},
	} {
		checkNotAccept(t, c.name, l, c.b, c.want, c.at)
	}
	checkState(t, "all that was refused", l, entries, all...)
}

// Promise 15.1: where an error has a place, it is an At; where not, none is in it.
func TestErrorsAreAtsWhereTheyHaveAPlace(t *testing.T) {
	l := filled(t, 7, of(at(3, 9)), v(1, 3))
	_, twice := l.Accept(bound(nil, of(at(3, 9)), by(1, 3, drop("k"))))
	_, wrong := l.Accept(bound(nil, of(at(3, 9)), by(1, 3, api.Write{})))
	_, gap := l.Accept(bound(of(at(4, 9)), of(at(4, 9))))
	_, order := l.Since(of(at(5, 1), at(3, 1)))
	_, unknown := l.Since(of(at(4, 1)))
	_, kind := l.Local(api.Write{})
	for i, err := range []error{twice, wrong, gap, order, unknown, kind} {
		var a *api.At
		if got := errors.As(err, &a); got != (i < 2) {
			t.Errorf("error %d: %v: an At: %v", i, err, got)
		}
	}
}

// Promise 15.1: cells are what all writes come to in the order of their ids, however they came.
func TestCellsHangOnIdsAlone(t *testing.T) {
	all := []api.Write{
		by(1, 3, put("k", "first")), by(1, 5, insert("l", "a", 0)), by(2, 3, insert("l", "b", 0)), by(2, 5, put("k", "second")),
		by(3, 3, drop("n")), by(3, 5, add("n", 4)), by(4, 3, insert("l", "c", 1)), by(4, 5, add("n", -1)),
	}
	want := []api.Cell{{Key: "k", Has: true, Text: "second"}, {Key: "l", List: []string{"b", "c", "a"}}, {Key: "n", Sum: 3}}
	have := of(at(3, 4), at(5, 4))
	for step := 1; step < 8; step += 2 { // these go through all eight
		for first := range all {
			l := made(t, 1)
			for i := range all {
				checkAccept(t, "one by one", l, bound(nil, have, all[(first+i*step)%8]), 1)
			}
			if got := l.Cells(); !sameCells(got, want) {
				t.Errorf("every %d from %d on: Cells() = %s; want %s", step, first, show(got), show(want))
			}
			checkState(t, "one by one", l, have, all...)
		}
	}
	l := made(t, 4)
	checkLocal(t, "own", l, put("k", "mine"), 1, 4)
	checkAccept(t, "an earlier one", l, bound(nil, have, all[0]), 1)
	if got := l.Cells(); !sameCells(got, []api.Cell{{Key: "k", Has: true, Text: "mine"}}) {
		t.Errorf("an earlier one counts for more: %s", show(got))
	}
	checkAccept(t, "a later one", l, bound(nil, have, all[3]), 1)
	if got := l.Cells(); !sameCells(got, []api.Cell{{Key: "k", Has: true, Text: "second"}}) {
		t.Errorf("a later one counts for less: %s", show(got))
	}
}

// Promise 15.2: what is known behind a vector, whether it knows nothing, a part, all, or what has no writes.
func TestSinceOfFewWrites(t *testing.T) {
	all := []api.Write{v(1, 3), v(1, 5), v(3, 3), v(4, 5), v(4, 9)}
	have := of(at(3, 8), at(5, 4), at(9, 6), at(11, 2))
	l := filled(t, 7, have, all...)
	for _, c := range []struct {
		name string
		from []api.Entry
		want []api.Write
	}{
		{"nothing", nil, all},
		{"nothing, not nil", of(), all},
		{"one's first", of(at(3, 1)), []api.Write{v(1, 5), v(3, 3), v(4, 5), v(4, 9)}},
		{"one's, between two", of(at(3, 2)), []api.Write{v(1, 5), v(3, 3), v(4, 5), v(4, 9)}},
		{"one's last", of(at(3, 3)), []api.Write{v(1, 5), v(4, 5), v(4, 9)}},
		{"one's, behind its last", of(at(3, 7)), []api.Write{v(1, 5), v(4, 5), v(4, 9)}},
		{"another one's, ahead of its first", of(at(9, 3)), all},
		{"another one's last", of(at(9, 4)), all[:4]},
		{"of two", of(at(3, 1), at(5, 3)), []api.Write{v(3, 3), v(4, 5), v(4, 9)}},
		{"of one without writes", of(at(11, 1)), all},
		{"of all", of(at(3, 2), at(5, 1), at(9, 1), at(11, 1)), []api.Write{v(3, 3), v(4, 5), v(4, 9)}},
		{"all writes", of(at(3, 3), at(5, 4), at(9, 4)), nil},
		{"all", have, nil},
	} {
		checkSince(t, c.name, l, c.from, have, c.want...)
	}
	checkLocal(t, "own", l, put("k", "v"), 9, 7)
	more := of(at(3, 8), at(5, 4), at(7, 9), at(9, 6), at(11, 2))
	checkSince(t, "own, too", l, have, more, by(9, 7, put("k", "v")))
	checkSince(t, "own, too", l, of(at(3, 8), at(5, 4)), more, v(4, 9), by(9, 7, put("k", "v")))
	checkSince(t, "all, with one's own", l, more, more)
}

// mixed are so many writes of replicas 3, 5 and 9 by turns, two of each time.
func mixed(n int) []api.Write {
	var l []api.Write
	for i := range n {
		l = append(l, v(i/2+1, [3]int{3, 5, 9}[(i%2*2+i/2)%3]))
	}
	sort.Slice(l, func(i, j int) bool {
		a, b := l[i].Id, l[j].Id
		return a.Time < b.Time || a.Time == b.Time && a.Replica < b.Replica
	})
	return l
}

// told is how far a vector, and writes, know together, spelled out.
func told(from []api.Entry, l []api.Write) []api.Entry {
	times := map[int]int{}
	for _, e := range from {
		times[e.Replica] = e.Time
	}
	for _, w := range l {
		times[w.Id.Replica] = max(times[w.Id.Replica], w.Id.Time)
	}
	var all []api.Entry
	for replica := range 201 {
		if times[replica] > 0 {
			all = append(all, at(replica, times[replica]))
		}
	}
	return all
}

// Promise 15.2: of 60 writes all, and of more the first 60, and then Have is what the vector and these tell.
func TestSinceOfManyWrites(t *testing.T) {
	known := of(at(1, 5), at(3, 400), at(5, 400), at(9, 400))
	for _, n := range []int{58, 59, 60, 61, 62, 119, 120, 121, 240, 299, 300} {
		all := mixed(n)
		l := filled(t, 7, known, all...)
		for _, from := range [][]api.Entry{nil, of(at(1, 2)), of(at(1, 5), at(3, 3)), of(at(3, 20), at(5, 20), at(9, 20)), of(at(5, 33)), of(at(9, 399)), known} {
			var behind []api.Write
			for _, w := range all {
				since := 0
				for _, e := range from {
					if e.Replica == w.Id.Replica {
						since = e.Time
					}
				}
				if w.Id.Time > since {
					behind = append(behind, w)
				}
			}
			have := known
			if len(behind) > 60 {
				behind = behind[:60]
				have = told(from, behind)
			}
			checkSince(t, fmt.Sprint(n, " writes"), l, from, have, behind...)
		}
	}
}

// Promise 15.2: known batches of a part: what from knows further stays, and what isn't reached isn't known.
func TestSinceOfAPart(t *testing.T) {
	l := filled(t, 7, of(at(3, 90), at(5, 90), at(9, 90), at(11, 90)), slices.Concat(row(60, 1, 3), []api.Write{v(61, 5), v(62, 9)})...)
	checkSince(t, "of one alone", l, nil, of(at(3, 60)), row(60, 1, 3)...)
	checkSince(t, "from without writes", l, of(at(11, 4)), of(at(3, 60), at(11, 4)), row(60, 1, 3)...)
	checkSince(t, "from behind writes", l, of(at(5, 61)), of(at(3, 60), at(5, 61)), row(60, 1, 3)...)
	checkSince(t, "from ahead of writes", l, of(at(5, 60)), of(at(3, 60), at(5, 60)), row(60, 1, 3)...)
	checkSince(t, "one is left out", l, of(at(3, 1)), of(at(3, 60), at(5, 61)), append(row(59, 2, 3), v(61, 5))...)
	checkSince(t, "none is left out", l, of(at(3, 2)), of(at(3, 90), at(5, 90), at(9, 90), at(11, 90)), append(row(58, 3, 3), v(61, 5), v(62, 9))...)

	// The 60th and the 61st are of one time: the last time of all tells nothing of a replica.
	l = filled(t, 7, of(at(3, 90), at(5, 90)), append(row(60, 1, 3), v(60, 5))...)
	checkSince(t, "of one time", l, nil, of(at(3, 60)), row(60, 1, 3)...)
	l = filled(t, 7, of(at(2, 90), at(3, 90)), slices.Concat(row(59, 1, 3), []api.Write{v(60, 2), v(60, 3)})...)
	checkSince(t, "of one time, the other way round", l, nil, of(at(2, 60), at(3, 59)), append(row(59, 1, 3), v(60, 2))...)
}

// Promise 15.2: from part to part all comes, in the order of its ids, and then Have is what is known.
func TestSinceGoesOn(t *testing.T) {
	for _, n := range []int{0, 1, 59, 60, 61, 120, 121, 180, 299, 300} {
		all := mixed(n)
		from := filled(t, 1, of(at(3, 400), at(5, 400), at(9, 400), at(20, 1)), all...)
		to := made(t, 7)
		for got := 0; ; {
			b, err := from.Since(to.Have())
			if err != nil {
				t.Fatalf("%d writes: Since(%s): %v", n, show(to.Have()), err)
			}
			more := min(len(all)-got, 60)
			if !slices.Equal(b.Writes, all[got:got+more]) {
				t.Fatalf("%d writes, behind %d: %s", n, got, show(b.Writes))
			}
			checkAccept(t, "part", to, b, more)
			checkAccept(t, "part again", to, b, 0)
			got += more
			if got == len(all) {
				break
			}
			checkState(t, "part", to, told(nil, all[:got]), all[:got]...)
		}
		checkState(t, "all", to, from.Have(), all...)
	}
}

// Promise 15.2: the vector covers nothing that isn't known.
func TestSinceTellsOfWhatIsNotKnown(t *testing.T) {
	l := filled(t, 7, of(at(3, 5), at(9, 2)), v(1, 3), v(2, 9))
	for _, from := range [][]api.Entry{of(at(3, 6)), of(at(3, last)), of(at(4, 1)), of(at(9, 3)), of(at(3, 5), at(9, 3)), of(at(3, 6), at(9, 2)), of(at(3, 5), at(5, 1), at(9, 2)), of(at(7, 1)), of(at(0, 1)), of(at(200, 1)), many(16, 20, 1)} {
		checkNotSince(t, "not known", l, from, api.ErrFalse)
		checkNotSince(t, "nothing is known", made(t, 7), from, api.ErrFalse)
	}
	have, all := full()
	checkNotSince(t, "not known, of 300 writes", filled(t, 7, have, all...), of(at(3, 301)), api.ErrFalse)
}

// badVectors are lists of entries, and what is wrong with them.
var badVectors = []struct {
	name string
	l    []api.Entry
	want api.Errno
}{
	{"more than 16 entries", many(17, 0, 1), api.ErrLimit},
	{"many more, all wrong", slices.Repeat([]api.Entry{{Replica: -1}}, 1000), api.ErrLimit},
	{"a replica below 0", of(at(-1, 1)), api.ErrRange},
	{"a replica above the most", of(at(3, 1), at(201, 1)), api.ErrRange},
	{"a time of 0", of(at(3, 0)), api.ErrRange},
	{"a time below 0", of(at(3, math.MinInt)), api.ErrRange},
	{"a time above the most", of(at(3, 1), at(5, last+1)), api.ErrRange},
	{"twice", of(at(3, 1), at(3, 1)), api.ErrOrder},
	{"falling", of(at(5, 1), at(3, 1)), api.ErrOrder},
	{"out of bounds, then falling", of(at(5, 0), at(3, 1)), api.ErrRange},
	{"falling, then out of bounds", of(at(5, 1), at(3, 1), at(9, 0)), api.ErrOrder},
	{"not known, and falling", of(at(5, 99), at(4, 99)), api.ErrOrder},
}

// Promises 15.2, P2, P3: what is wrong with a vector is told ahead of all else, without a place.
func TestSinceTellsOfWrongVectors(t *testing.T) {
	have, all := full()
	logs := []*log.Log{made(t, 7), filled(t, 7, of(at(3, 5), at(5, 5)), v(1, 3)), filled(t, 7, have, all...), filled(t, 7, many(16, 0, 9))}
	for _, l := range logs {
		for _, b := range badVectors {
			checkNotSince(t, b.name, l, b.l, b.want)
		}
	}
}

// chance are numbers that look like chance, and are the same each time.
type chance uint64

// next is one of so many.
func (c *chance) next(n int) int {
	*c = *c*6364136223846793005 + 1442695040888963407
	return int(*c>>33) % n
}

// some is a write without an id, nearly always a right one.
func (c *chance) some() api.Write {
	key := string(rune('a' + c.next(5)))
	switch c.next(16) {
	case 0:
		return drop(key)
	case 1:
		return api.Write{Kind: api.Drop, Key: key, N: 1}
	case 2, 3, 4, 5, 6:
		return add(key, c.next(2001)-1000)
	case 7, 8, 9, 10, 11:
		return insert(key, fmt.Sprint(c.next(100)), c.next(9))
	}
	return put(key, fmt.Sprint(c.next(100)))
}

// spelled is a log as the promises tell of it, spelled out.
type spelled struct {
	replica int
	known   map[int]int
	there   map[api.Id]api.Write
}

// sorted are all writes that are there behind a vector, by rising ids.
func (s *spelled) sorted(from map[int]int) []api.Write {
	var l []api.Write
	for id, w := range s.there {
		if id.Time > from[id.Replica] {
			l = append(l, w)
		}
	}
	sort.Slice(l, func(i, j int) bool {
		a, b := l[i].Id, l[j].Id
		return a.Time < b.Time || a.Time == b.Time && a.Replica < b.Replica
	})
	return l
}

// entries is a vector as a list.
func entries(times map[int]int) []api.Entry {
	var l []api.Entry
	for replica := range 201 {
		if time := times[replica]; time > 0 {
			l = append(l, at(replica, time))
		}
	}
	return l
}

// times is a right list as a vector.
func times(l []api.Entry) map[int]int {
	all := map[int]int{}
	for _, e := range l {
		all[e.Replica] = e.Time
	}
	return all
}

// local is what Local is to tell of a right write: an id, or an error.
func (s *spelled) local(w api.Write) (api.Id, api.Errno) {
	id := api.Id{Time: 1, Replica: s.replica}
	for _, time := range s.known {
		id.Time = max(id.Time, time+1)
	}
	_, own := s.known[s.replica]
	switch {
	case id.Time > 1<<40:
		return api.Id{}, api.ErrLimit
	case len(s.there) >= 300:
		return api.Id{}, api.ErrFull
	case !own && len(s.known) >= 16:
		return api.Id{}, api.ErrLimit
	}
	w.Id = id
	s.there[id] = w
	s.known[s.replica] = id.Time
	return id, api.OK
}

// accept is what Accept is to tell of a right batch: how many weren't there, or an error, and its place.
func (s *spelled) accept(b api.Batch) (int, api.Errno, int) {
	for _, e := range b.From {
		if s.known[e.Replica] < e.Time {
			return 0, api.ErrOrder, -1
		}
	}
	both := times(entries(s.known))
	for _, e := range b.Have {
		both[e.Replica] = max(both[e.Replica], e.Time)
	}
	if len(both) > 16 {
		return 0, api.ErrLimit, -1
	}
	var fresh []api.Write
	for i, w := range b.Writes {
		was, there := s.there[w.Id]
		if there && was != w {
			return 0, api.ErrTwice, i
		}
		if !there {
			fresh = append(fresh, w)
		}
	}
	if len(s.there)+len(fresh) > 300 {
		return 0, api.ErrFull, -1
	}
	for _, w := range fresh {
		s.there[w.Id] = w
	}
	s.known = both
	return len(fresh), api.OK, -1
}

// since is what Since is to tell of a right vector: a batch, or an error.
func (s *spelled) since(from []api.Entry) (api.Batch, api.Errno) {
	for _, e := range from {
		if s.known[e.Replica] < e.Time {
			return api.Batch{}, api.ErrFalse
		}
	}
	l := s.sorted(times(from))
	if len(l) <= 60 {
		return bound(from, entries(s.known), l...), api.OK
	}
	return bound(from, told(from, l[:60]), l[:60]...), api.OK
}

// pair is a log, and what it is to be.
type pair struct {
	l *log.Log
	s *spelled
}

// pairOf is a pair of a replica.
func pairOf(t *testing.T, replica int) pair {
	return pair{made(t, replica), &spelled{replica, map[int]int{}, map[api.Id]api.Write{}}}
}

// local writes to both.
func (p pair) local(t *testing.T, w api.Write) {
	t.Helper()
	if w.Kind == api.Drop && w.N != 0 {
		checkNotLocal(t, "wrong", p.l, w, api.ErrForm)
		return
	}
	id, err := p.l.Local(w)
	want, e := p.s.local(w)
	if got, place := plain.Place(err); id != want || got != e || place != -1 {
		t.Fatalf("replica %d: Local(%s) = %v, error %d at %d; want %v, error %d", p.s.replica, show(w), id, got, place, want, e)
	}
}

// accept takes a right batch into both.
func (p pair) accept(t *testing.T, b api.Batch) api.Errno {
	t.Helper()
	n, err := p.l.Accept(b)
	want, e, at := p.s.accept(b)
	if got, place := plain.Place(err); n != want || got != e || place != at {
		t.Fatalf("replica %d: Accept(%s) = %d, error %d at %d; want %d, error %d at %d", p.s.replica, show(b), n, got, place, want, e, at)
	}
	return e
}

// since asks both.
func (p pair) since(t *testing.T, from []api.Entry) api.Batch {
	t.Helper()
	b, err := p.l.Since(from)
	want, e := p.s.since(from)
	if got, place := plain.Place(err); !batch.Same(b, want) || got != e || place != -1 || err == nil && batch.Right(b) != nil {
		t.Fatalf("replica %d: Since(%s) = %s, error %d at %d; want %s, error %d", p.s.replica, show(from), show(b), got, place, show(want), e)
	}
	return b
}

// check asks both for all.
func (p pair) check(t *testing.T) {
	t.Helper()
	checkState(t, fmt.Sprint("replica ", p.s.replica), p.l, entries(p.s.known), p.s.sorted(nil)...)
}

// vectorOf is a right vector, not far from another one.
func (c *chance) vectorOf(near []api.Entry) []api.Entry {
	all := times(near)
	for range c.next(3) {
		replica := c.next(6) + 1
		all[replica] = max(0, all[replica]+c.next(9)-6)
	}
	return entries(all)
}

// Promises 15.1, 15.2: what logs are told by chance, against the promises spelled out.
func TestLogsAgainstThePromises(t *testing.T) {
	for seed := range 60 {
		c := chance(seed)
		var all []pair
		for replica := range 4 {
			all = append(all, pairOf(t, replica+1))
		}
		all = append(all, pairOf(t, 1)) // two of one replica
		var sent []api.Batch
		for step := range 400 {
			p, q := all[c.next(len(all))], all[c.next(len(all))]
			switch c.next(6) {
			case 0, 1:
				p.local(t, c.some())
			case 2:
				sent = append(sent, p.since(t, q.l.Have()))
			case 3:
				sent = append(sent, p.since(t, c.vectorOf(q.l.Have())))
			default:
				if len(sent) > 0 {
					q.accept(t, sent[len(sent)-1-c.next(min(len(sent), 20))])
				}
			}
			if step%40 == 0 {
				p.check(t)
				q.check(t)
			}
		}
		for _, p := range all {
			p.check(t)
		}
	}
}

// wrap is a batch in a frame of a version, and out of it again.
func wrap(t *testing.T, version int, b api.Batch) api.Batch {
	t.Helper()
	s, err := [3]func(api.Batch) (string, error){old.First, old.Second, frame.Write}[version](b)
	if err != nil {
		t.Fatalf("%s in a frame of version %d: %v", show(b), version+1, err)
	}
	out, err := old.Any(s)
	if err != nil || !batch.Same(out, b) {
		t.Fatalf("%s out of a frame of version %d: %s, %v", show(b), version+1, show(out), err)
	}
	return out
}

// Promises 15.1, 15.2 (and what is to be true of the whole, 5): logs that know as far have the same, whoever sent what, however often, over frames of whichever version; a gap is refused.
func TestWhoKnowsTheSameHasTheSame(t *testing.T) {
	gaps := 0
	for seed := range 20 {
		c := chance(seed + 1000)
		var all []pair
		for _, replica := range []int{0, 1, 2, 100, 200} {
			all = append(all, pairOf(t, replica))
		}
		var sent []api.Batch
		for range 300 {
			p, q := all[c.next(5)], all[c.next(5)]
			switch c.next(4) {
			case 0:
				if len(p.s.there) < 200 {
					p.local(t, c.some())
				}
			case 1:
				from := q.l.Have()
				for _, e := range from {
					if p.s.known[e.Replica] < e.Time { // what the other one alone knows isn't asked for
						from = nil
						break
					}
				}
				sent = append(sent, wrap(t, c.next(3), p.since(t, from)))
			default:
				if len(sent) > 0 {
					if q.accept(t, sent[c.next(len(sent))]) == api.ErrOrder {
						gaps++
					}
				}
			}
		}
		meet(t, &c, all)
	}
	if gaps == 0 {
		t.Error("there was no gap")
	}
}

// meet sends all to all, until all know as far, and asks whether they have the same.
func meet(t *testing.T, c *chance, all []pair) {
	t.Helper()
	for range 8 {
		for _, p := range all {
			for _, q := range all {
				common := map[int]int{}
				for replica, time := range q.s.known {
					common[replica] = min(time, p.s.known[replica])
				}
				if e := q.accept(t, wrap(t, c.next(3), p.since(t, entries(common)))); e != api.OK {
					t.Fatalf("replica %d to %d: error %d", p.s.replica, q.s.replica, e)
				}
			}
		}
	}
	first := all[0].l
	for _, p := range all {
		p.check(t)
		checkState(t, "all alike", p.l, first.Have(), first.Writes()...)
		if !sameCells(p.l.Cells(), first.Cells()) {
			t.Errorf("replica %d has other cells: %s; %s", p.s.replica, show(p.l.Cells()), show(first.Cells()))
		}
	}
}

// Promise P1: whatever is handed in, it is done, or it is told what is wrong.
func TestWhateverIsHandedIn(t *testing.T) {
	numbers := []int{math.MinInt, -1, 0, 1, 2, 3, 5, 16, 60, 200, 201, 300, 1000, last - 1, last, last + 1, 1 << 50, math.MaxInt}
	texts := []string{"", "k", "\xff", x(40), x(41), x(300), x(301)}
	c := chance(15)
	number := func() int { return numbers[c.next(len(numbers))] }
	whatever := func() api.Write {
		return api.Write{Id: api.Id{Time: number(), Replica: number()}, Kind: c.next(6), Key: texts[c.next(len(texts))], Value: texts[c.next(len(texts))], N: number()}
	}
	vector := func() []api.Entry {
		var l []api.Entry
		for range c.next(4) {
			l = append(l, at(number(), number()))
		}
		return l
	}
	l, done, taken := made(t, 5), 0, 0
	for i := range 100_000 {
		if i%500 == 0 {
			l = made(t, i/500)
		}
		have, writes := l.Have(), l.Writes()
		if _, err := l.Local(whatever()); err == nil {
			done++
		} else if !slices.Equal(l.Have(), have) || !slices.Equal(l.Writes(), writes) {
			t.Fatalf("Local changed something, and told %v", err)
		}
		have, writes = l.Have(), l.Writes()
		b := bound(vector(), vector())
		for range c.next(3) {
			b.Writes = append(b.Writes, whatever())
		}
		if _, err := l.Accept(b); err == nil {
			taken++
		} else if !slices.Equal(l.Have(), have) || !slices.Equal(l.Writes(), writes) {
			t.Fatalf("Accept(%s) changed something, and told %v", show(b), err)
		}
		l.Since(vector())
		l.Cells()
	}
	if done < 100 || taken < 100 {
		t.Errorf("%d were written, and %d taken in", done, taken)
	}
}

// Promise P4: logs have nothing in common, though they be of one replica.
func TestLogsAreApart(t *testing.T) {
	a, b := made(t, 3), made(t, 3)
	checkLocal(t, "a", a, put("k", "v"), 1, 3)
	checkState(t, "b", b, nil)
	checkAccept(t, "b", b, bound(nil, of(at(4, 9)), v(9, 4)), 1)
	checkState(t, "a", a, of(at(3, 1)), by(1, 3, put("k", "v")))
	checkState(t, "b", b, of(at(4, 9)), v(9, 4))
	checkState(t, "new", made(t, 3), nil)
}

// Promise P4: no list that is handed in is written into, nor what stands behind its length.
func TestListsAreLeftAsTheyAre(t *testing.T) {
	vectors := append(of(at(3, 1), at(5, 4)), many(3, 30, 30)...)
	have := append(of(at(3, 9), at(5, 9)), many(3, 40, 30)...)
	writes := []api.Write{v(2, 3), v(3, 3), v(5, 5), v(6, 5), v(7, 5)}
	was := fmt.Sprint(vectors, have, writes)
	l := filled(t, 7, of(at(3, 8), at(5, 8)), v(1, 3), v(5, 5), v(8, 3))
	checkAccept(t, "lists with something behind", l, bound(vectors[:2], have[:2], writes[:3]...), 2)
	checkAccept(t, "lists with something else behind", l, bound(vectors[:2], have[:4], writes[:3]...), 0)
	checkSince(t, "a list with something behind", l, vectors[:2], append(of(at(3, 9), at(5, 9)), many(2, 40, 30)...), v(2, 3), v(3, 3), v(5, 5), v(8, 3))
	if got := fmt.Sprint(vectors, have, writes); got != was {
		t.Errorf("what was handed in is %s; it was %s", got, was)
	}
	long := filled(t, 7, of(at(3, 99)), row(99, 1, 3)...)
	checkSince(t, "of a part", long, vectors[:1], of(at(3, 61)), row(60, 2, 3)...)
	if got := fmt.Sprint(vectors, have, writes); got != was {
		t.Errorf("what was handed in is %s; it was %s", got, was)
	}
}

// Promise P4: no list that is handed in is kept.
func TestListsAreNotKept(t *testing.T) {
	from, have, writes := of(at(3, 1)), of(at(3, 9), at(5, 9)), []api.Write{v(2, 3), v(5, 5)}
	l := filled(t, 7, of(at(3, 1)), v(1, 3))
	checkAccept(t, "lists", l, bound(from, have, writes...), 2)
	for i := range have {
		have[i] = at(99, 99)
	}
	clear(writes)
	clear(from)
	checkState(t, "once the lists are others", l, of(at(3, 9), at(5, 9)), v(1, 3), v(2, 3), v(5, 5))
	fresh := made(t, 7)
	have = of(at(3, 9))
	checkAccept(t, "into nothing", fresh, bound(nil, have, v(2, 3)), 1)
	clear(have)
	checkState(t, "into nothing", fresh, of(at(3, 9)), v(2, 3))

	for _, n := range []int{5, 99} {
		l = filled(t, 7, of(at(3, 99), at(5, 9)), row(n, 1, 3)...)
		from = of(at(3, 2), at(5, 4))
		b, err := l.Since(from)
		clear(from)
		if err != nil || !slices.Equal(b.From, of(at(3, 2), at(5, 4))) {
			t.Errorf("Since keeps what it was handed: %s, %v", show(b), err)
		}
	}
}

// spoil overwrites lists, and what stands behind their lengths.
func spoil(entries []api.Entry, writes []api.Write) {
	clear(entries[:cap(entries)])
	clear(writes[:cap(writes)])
	_, _ = append(entries, at(9, 9)), append(writes, v(9, 9))
}

// Promise P4: what comes out is the caller's: what is done to it isn't done to the log, nor to what came out ahead.
func TestAnswersAreFresh(t *testing.T) {
	for _, n := range []int{5, 60, 61, 99} {
		want := row(n, 1, 3)
		have := of(at(3, 99), at(5, 9))
		l := filled(t, 7, have, want...)
		firstHave, firstWrites := l.Have(), l.Writes()
		b, _ := l.Since(nil)
		c, _ := l.Since(nil)
		d, _ := l.Since(l.Have())
		spoil(l.Have(), l.Writes())
		spoil(b.From, b.Writes)
		spoil(b.Have, nil)
		spoil(d.From, nil)
		if !slices.Equal(d.Have, have) {
			t.Errorf("%d writes: both vectors of a batch share memory: %s", n, show(d))
		}
		spoil(d.Have, nil)
		clear(l.Cells())
		checkState(t, "what was done to answers", l, have, want...)
		if !slices.Equal(firstHave, have) || !slices.Equal(firstWrites, want) {
			t.Errorf("%d writes: what is done to an answer is done to another one: %s, %s", n, show(firstHave), show(firstWrites))
		}
		if first := want[:min(n, 60)]; !slices.Equal(c.Writes, first) || n <= 60 && !slices.Equal(c.Have, have) || n > 60 && !slices.Equal(c.Have, of(at(3, 60))) {
			t.Errorf("%d writes: what is done to a batch is done to another one: %s", n, show(c))
		}
		checkLocal(t, "behind all", l, put("k", "v"), 100, 7)
		checkAccept(t, "ahead of all", l, bound(nil, of(at(1, 1)), v(1, 1)), 1)
		if !slices.Equal(firstHave, have) || !slices.Equal(firstWrites, want) || !slices.Equal(c.Writes, want[:min(n, 60)]) {
			t.Errorf("%d writes: what is written later changes an answer", n)
		}
	}
}

// Promise P4: cells are the caller's, with their lists.
func TestCellsAreFresh(t *testing.T) {
	l := made(t, 7)
	checkLocal(t, "one", l, insert("k", "a", 0), 1, 7)
	checkLocal(t, "two", l, insert("k", "b", 1), 2, 7)
	first, second := l.Cells(), l.Cells()
	clear(first[0].List)
	_ = append(first[0].List, "behind")
	want := []api.Cell{{Key: "k", List: []string{"a", "b"}}}
	if !sameCells(second, want) || !sameCells(l.Cells(), want) {
		t.Errorf("what is done to a cell is done to another one: %s, %s", show(second), show(l.Cells()))
	}
}

// Promise P4: no text that is handed in is kept, nor shared with an answer, nor is the log's.
func TestTextsAreFresh(t *testing.T) {
	letters := []byte("kvlw")
	shared := func(n int) string { return unsafe.String(&letters[n], 1) }
	l := made(t, 7)
	checkLocal(t, "shared", l, put(shared(0), shared(1)), 1, 7)
	checkAccept(t, "shared", l, bound(nil, of(at(3, 1)), by(1, 3, put(shared(2), shared(3)))), 1)
	copy(letters, "????")
	want := []api.Write{by(1, 3, put("l", "w")), by(1, 7, put("k", "v"))}
	have := of(at(3, 1), at(7, 1))
	checkState(t, "texts of writes", l, have, want...)

	b, _ := l.Since(nil)
	cells := l.Cells()
	for _, w := range slices.Concat(l.Writes(), b.Writes) {
		spoilText(w.Key)
		spoilText(w.Value)
	}
	spoilText(cells[0].Key)
	spoilText(cells[0].Text)
	checkState(t, "texts of answers", l, have, want...)
}

// spoilText overwrites the first byte of a text.
func spoilText(s string) { unsafe.Slice(unsafe.StringData(s), len(s))[0] = '?' }

// Promise P4: what is asked hangs on what was done alone, however often it is asked, and in between.
func TestAnswersAreTheSameAgain(t *testing.T) {
	c := chance(99)
	asked, left := made(t, 7), made(t, 7)
	for range 120 {
		w := c.some()
		asked.Local(w)
		left.Local(w)
		for range 3 {
			asked.Cells()
			asked.Writes()
			asked.Since(asked.Have())
			asked.Since(nil)
			asked.Local(api.Write{})
			asked.Accept(bound(of(at(9, 9)), of(at(9, 9))))
		}
	}
	checkState(t, "asked", asked, left.Have(), left.Writes()...)
	one, _ := asked.Since(nil)
	other, _ := left.Since(nil)
	if !reflect.DeepEqual(one, other) {
		t.Errorf("Since = %s; %s", show(one), show(other))
	}
}
