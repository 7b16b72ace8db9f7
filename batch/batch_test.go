package batch_test

import (
	"fmt"
	"math"
	"reflect"
	"slices"
	"strings"
	"testing"

	"packtrain/api"
	"packtrain/batch"
	"packtrain/plain"
)

// at is an entry.
func at(replica, time int) api.Entry { return api.Entry{Replica: replica, Time: time} }

// of is a list of entries.
func of(l ...api.Entry) []api.Entry { return l }

// put is a write with nothing wrong but perhaps its id.
func put(time, replica int) api.Write {
	return api.Write{Id: api.Id{Time: time, Replica: replica}, Kind: api.Put, Key: "k", Value: "v"}
}

// with is a write that is changed.
func with(w api.Write, change func(*api.Write)) api.Write {
	change(&w)
	return w
}

// many are so many entries of replicas from 0 on, known to a time.
func many(n, time int) []api.Entry {
	var l []api.Entry
	for i := range n {
		l = append(l, at(i, time))
	}
	return l
}

// row are so many writes of a replica, from time 1 on.
func row(n, replica int) []api.Write {
	var l []api.Write
	for i := range n {
		l = append(l, put(i+1, replica))
	}
	return l
}

// bound is a batch from one vector to another, with some writes.
func bound(from, have []api.Entry, l ...api.Write) api.Batch {
	return api.Batch{From: from, Have: have, Writes: l}
}

// show is a batch as a text that isn't too long.
func show(b api.Batch) string {
	if s := fmt.Sprintf("%+v", b); len(s) < 200 {
		return s
	}
	return fmt.Sprintf("a batch of %d, %d entries and %d writes", len(b.From), len(b.Have), len(b.Writes))
}

// checkRight asks for what is wrong with a batch: an Errno, and its place (-1: none).
func checkRight(t *testing.T, name string, b api.Batch, want api.Errno, place int) {
	t.Helper()
	if e, p := plain.Place(batch.Right(b)); e != want || p != place {
		t.Errorf("%s: Right(%s) = error %d at %d; want %d at %d", name, show(b), e, p, want, place)
	}
}

// checkSame asks whether two batches are the same, both ways.
func checkSame(t *testing.T, a, b api.Batch, want bool) {
	t.Helper()
	if batch.Same(a, b) != want || batch.Same(b, a) != want {
		t.Errorf("Same(%s, %s) = %v, and %v the other way round; want %v", show(a), show(b), batch.Same(a, b), batch.Same(b, a), want)
	}
}

// goods are batches with nothing wrong, no two of them the same.
func goods() []api.Batch {
	three := of(at(0, 99), at(1, 99), at(5, 99))
	return []api.Batch{
		{},
		bound(nil, of(at(3, 7))),
		bound(nil, of(at(3, 7)), put(7, 3)),
		bound(nil, of(at(3, 7)), put(6, 3)),
		bound(nil, of(at(3, 7)), put(1, 3), put(7, 3)),
		bound(of(at(3, 6)), of(at(3, 7)), put(7, 3)),
		bound(of(at(3, 7)), of(at(3, 7))),
		bound(of(at(3, 7)), of(at(3, 8))),
		bound(of(at(1, 2)), three, put(3, 0), put(3, 1), put(3, 5), put(4, 0), put(99, 5)),
		bound(of(at(1, 2)), three, put(1, 0), put(1, 5), put(2, 5), put(3, 1)),
		bound(nil, of(at(0, 1<<40), at(200, 1<<40)), put(1, 0), put(1, 200), put(1<<40, 0), put(1<<40, 200)),
		bound(nil, of(at(200, 1)), put(1, 200)),
		bound(many(16, 1), many(16, 2), put(2, 0), put(2, 15)),
		bound(of(at(5, 1), at(9, 2)), of(at(1, 1), at(5, 1), at(7, 1), at(9, 3)), put(1, 1), put(1, 7), put(3, 9)),
		bound(nil, of(at(2, 60)), row(60, 2)...),
		bound(nil, of(at(2, 60)), row(59, 2)...),
		bound(nil, of(at(1, 9)),
			api.Write{Id: api.Id{Time: 1, Replica: 1}, Kind: api.Drop},
			api.Write{Id: api.Id{Time: 2, Replica: 1}, Kind: api.Add, Key: "\xff\x00", N: -1 << 50},
			api.Write{Id: api.Id{Time: 3, Replica: 1}, Kind: api.Insert, Key: strings.Repeat("k", 40), Value: strings.Repeat("v", 300), N: 1000},
			api.Write{Id: api.Id{Time: 9, Replica: 1}, Kind: api.Put}),
	}
}

// Promises 10.1, P1: batches with nothing wrong, of no writes, and of as many as there may be.
func TestRightOfGoods(t *testing.T) {
	for _, b := range goods() {
		checkRight(t, "good", b, api.OK, -1)
	}
	checkRight(t, "lists that are empty, not nil", api.Batch{From: of(), Have: of(), Writes: []api.Write{}}, api.OK, -1)
}

// badVectors are lists of entries, and what is wrong with them.
var badVectors = []struct {
	name string
	l    []api.Entry
	want api.Errno
}{
	{"more than 16 entries", many(17, 1), api.ErrLimit},
	{"more than 16 entries, and a wrong one", many(17, 0), api.ErrLimit},
	{"a time of 0", of(at(3, 0)), api.ErrRange},
	{"a time below 0", of(at(1, 1), at(3, -1)), api.ErrRange},
	{"the least time", of(at(3, math.MinInt)), api.ErrRange},
	{"a time above 2^40", of(at(3, 1<<40+1)), api.ErrRange},
	{"the greatest time", of(at(3, math.MaxInt)), api.ErrRange},
	{"a replica below 0", of(at(-1, 1)), api.ErrRange},
	{"a replica above 200", of(at(1, 1), at(201, 1)), api.ErrRange},
	{"a replica twice", of(at(3, 1), at(3, 1)), api.ErrOrder},
	{"a replica below the one ahead", of(at(3, 1), at(2, 1)), api.ErrOrder},
	{"a replica below the one ahead, and none behind", of(at(3, 1), at(2, 1), at(201, 1)), api.ErrOrder},
}

// Promises 10.1, P3: what is wrong with From, then with Have, is told without a place, ahead of all else.
func TestRightTellsOfVectors(t *testing.T) {
	wrong := append(row(61, 3), api.Write{})
	for _, c := range badVectors {
		checkRight(t, "From: "+c.name, bound(c.l, of(at(3, 7)), put(7, 3)), c.want, -1)
		checkRight(t, "From, and no Have: "+c.name, bound(c.l, nil), c.want, -1)
		checkRight(t, "From, and wrong writes: "+c.name, bound(c.l, of(at(3, 7)), wrong...), c.want, -1)
		checkRight(t, "Have: "+c.name, bound(nil, c.l, put(7, 3)), c.want, -1)
		checkRight(t, "Have, and none: "+c.name, bound(nil, c.l), c.want, -1)
		checkRight(t, "Have, and not covered: "+c.name, bound(of(at(150, 9)), c.l), c.want, -1)
		checkRight(t, "Have, and wrong writes: "+c.name, bound(nil, c.l, wrong...), c.want, -1)
		for _, d := range badVectors {
			checkRight(t, "From: "+c.name+"; Have: "+d.name, bound(c.l, d.l, wrong...), c.want, -1)
		}
	}
}

// Promises 10.1, P3: Have doesn't cover From: without a place, ahead of whatever is wrong with the writes.
func TestRightTellsWhatIsNotCovered(t *testing.T) {
	for _, c := range []struct {
		name       string
		from, have []api.Entry
	}{
		{"nothing", of(at(3, 1)), nil},
		{"another replica", of(at(1, 1)), of(at(3, 7))},
		{"a replica beside", of(at(2, 1)), of(at(1, 1), at(3, 1))},
		{"less by one", of(at(3, 8)), of(at(3, 7))},
		{"less by one, of the greatest", of(at(3, 1<<40)), of(at(3, 1<<40-1))},
		{"the first one is less", of(at(1, 2), at(3, 2)), of(at(1, 1), at(3, 9))},
		{"the last one is less", of(at(1, 2), at(3, 2)), of(at(1, 9), at(3, 1))},
		{"the last one isn't there", many(16, 1), many(15, 9)},
		{"one of many isn't there", many(16, 1), append(many(15, 9), at(16, 9))},
		{"the other way round", of(at(3, 7), at(5, 1)), of(at(3, 7))},
	} {
		checkRight(t, c.name, bound(c.from, c.have), api.ErrFalse, -1)
		checkRight(t, c.name+", and a good write", bound(c.from, c.have, put(7, 3)), api.ErrFalse, -1)
		checkRight(t, c.name+", and a wrong write", bound(c.from, c.have, api.Write{}), api.ErrFalse, -1)
		checkRight(t, c.name+", and too many writes", bound(c.from, c.have, row(61, 3)...), api.ErrFalse, -1)
	}
}

// Promises 10.1, P3: there are too many writes: without a place, ahead of whatever is wrong with them.
func TestRightTellsTooManyWrites(t *testing.T) {
	have := of(at(2, 1<<40))
	checkRight(t, "60", bound(nil, have, row(60, 2)...), api.OK, -1)
	checkRight(t, "61", bound(nil, have, row(61, 2)...), api.ErrLimit, -1)
	checkRight(t, "120", bound(nil, have, row(120, 2)...), api.ErrLimit, -1)
	checkRight(t, "very many", bound(nil, have, row(1<<18, 2)...), api.ErrLimit, -1)
	checkRight(t, "61, the first one wrong", bound(nil, have, make([]api.Write, 61)...), api.ErrLimit, -1)
	checkRight(t, "61, none within", bound(nil, nil, row(61, 2)...), api.ErrLimit, -1)
	checkRight(t, "60, the first one wrong", bound(nil, have, make([]api.Write, 60)...), api.ErrArg, 0)
	checkRight(t, "60, the last one wrong", bound(nil, have, append(row(59, 2), api.Write{})...), api.ErrArg, 59)
	checkRight(t, "60, the last one beyond", bound(nil, of(at(2, 59)), row(60, 2)...), api.ErrState, 59)
	checkRight(t, "60, the last one ahead", bound(nil, have, append(row(59, 2), put(1, 2))...), api.ErrOrder, 59)
}

// badWrites are writes of no batch, and what is wrong with them.
var badWrites = []struct {
	name string
	w    api.Write
	want api.Errno
}{
	{"none", api.Write{}, api.ErrArg},
	{"no kind", with(put(7, 3), func(w *api.Write) { w.Kind = 0 }), api.ErrArg},
	{"another kind", with(put(7, 3), func(w *api.Write) { w.Kind = 5 }), api.ErrArg},
	{"another kind, and another id", with(put(0, 3), func(w *api.Write) { w.Kind = -1 }), api.ErrArg},
	{"no time", put(0, 3), api.ErrRange},
	{"a time above 2^40", put(1<<40+1, 3), api.ErrRange},
	{"a replica below 0", put(7, -1), api.ErrRange},
	{"a replica above 200", put(7, 201), api.ErrRange},
	{"a key of 41 bytes", with(put(7, 3), func(w *api.Write) { w.Key = strings.Repeat("k", 41) }), api.ErrLimit},
	{"a value of 301 bytes", with(put(7, 3), func(w *api.Write) { w.Value = strings.Repeat("v", 301) }), api.ErrLimit},
	{"a number of a Put", with(put(7, 3), func(w *api.Write) { w.N = 1 }), api.ErrForm},
	{"a value of a Drop", with(put(7, 3), func(w *api.Write) { w.Kind = api.Drop }), api.ErrForm},
	{"a place below 0", with(put(7, 3), func(w *api.Write) { w.Kind, w.N = api.Insert, -1 }), api.ErrRange},
	{"a number above 2^50", api.Write{Id: api.Id{Time: 7, Replica: 3}, Kind: api.Add, N: 1<<50 + 1}, api.ErrRange},
}

// Promises 10.1, P3: what is wrong with a write is told at its number, ahead of its order, and of whether it is within.
func TestRightTellsOfWrites(t *testing.T) {
	wide := of(at(1, 99), at(3, 99))
	for _, c := range badWrites {
		checkRight(t, c.name, bound(nil, wide, c.w), c.want, 0)
		checkRight(t, c.name+", and not within", bound(nil, nil, c.w), c.want, 0)
		checkRight(t, c.name+", behind another", bound(nil, wide, put(1, 1), c.w), c.want, 1)
		checkRight(t, c.name+", behind two others", bound(nil, wide, put(1, 1), put(6, 3), c.w), c.want, 2)
		checkRight(t, c.name+", not later", bound(nil, wide, put(99, 3), c.w), c.want, 1)
		checkRight(t, c.name+", twice", bound(nil, wide, put(1, 1), c.w, c.w), c.want, 1)
		for _, d := range badWrites {
			checkRight(t, c.name+"; "+d.name, bound(nil, wide, put(1, 1), c.w, d.w), c.want, 1)
		}
	}
}

// Promises 10.1, P3: a write that isn't later than the one ahead, by time, then by replica, whether it is within or not.
func TestRightTellsOfOrder(t *testing.T) {
	wide := of(at(1, 99), at(3, 99), at(5, 99))
	for _, c := range []struct {
		name  string
		l     []api.Write
		place int
	}{
		{"twice", []api.Write{put(7, 3), put(7, 3)}, 1},
		{"the same id, and another write", []api.Write{put(7, 3), {Id: api.Id{Time: 7, Replica: 3}, Kind: api.Drop}}, 1},
		{"an earlier time", []api.Write{put(7, 3), put(6, 3)}, 1},
		{"an earlier time, a higher replica", []api.Write{put(7, 3), put(6, 5)}, 1},
		{"the same time, a lower replica", []api.Write{put(7, 3), put(7, 1)}, 1},
		{"the third one", []api.Write{put(6, 5), put(7, 1), put(7, 1)}, 2},
		{"the third one, later than the first one", []api.Write{put(5, 5), put(7, 1), put(6, 1)}, 2},
		{"the second and the third one", []api.Write{put(8, 5), put(7, 1), put(6, 1)}, 1},
		{"not within, either", []api.Write{put(7, 3), put(7, 2)}, 1},
		{"not within, either, and twice", []api.Write{put(7, 3), put(8, 3), put(7, 4)}, 2},
		{"another one behind it is wrong", []api.Write{put(7, 3), put(6, 3), {}}, 1},
		{"another one behind it isn't within", []api.Write{put(7, 3), put(6, 3), put(100, 3)}, 1},
	} {
		checkRight(t, c.name, bound(nil, wide, c.l...), api.ErrOrder, c.place)
	}
}

// Promises 10.1, P3: a write that From has already, or that Have hasn't.
func TestRightTellsWhatIsNotWithin(t *testing.T) {
	from, have := of(at(1, 2), at(3, 6)), of(at(1, 9), at(3, 7), at(5, 4))
	for _, c := range []struct {
		name  string
		l     []api.Write
		place int
	}{
		{"as far as From", []api.Write{put(6, 3)}, 0},
		{"ahead of From", []api.Write{put(1, 3)}, 0},
		{"behind Have", []api.Write{put(8, 3)}, 0},
		{"far behind Have", []api.Write{put(1<<40, 3)}, 0},
		{"of no replica of Have", []api.Write{put(1, 2)}, 0},
		{"of a replica without a From", []api.Write{put(5, 5)}, 0},
		{"the second one", []api.Write{put(7, 3), put(8, 3)}, 1},
		{"the second one, of another replica", []api.Write{put(3, 1), put(5, 5)}, 1},
		{"the third one", []api.Write{put(3, 1), put(4, 1), put(6, 3)}, 2},
		{"the first one, and the others are wrong", []api.Write{put(2, 1), put(2, 1), {}}, 0},
		{"the first and the second one", []api.Write{put(8, 3), put(9, 3)}, 0},
	} {
		checkRight(t, c.name, bound(from, have, c.l...), api.ErrState, c.place)
	}
	checkRight(t, "both are none", bound(nil, nil, put(1, 0)), api.ErrState, 0)
	checkRight(t, "both are the same", bound(have, have, put(4, 5)), api.ErrState, 0)
}

// told is what 6.1 tells of a vector; the bounds stand here as the numbers that they are.
func told(l []api.Entry) api.Errno {
	if len(l) > 16 {
		return api.ErrLimit
	}
	above := -1
	for _, e := range l {
		if e.Replica < 0 || e.Replica > 200 || e.Time < 1 || e.Time > 1099511627776 {
			return api.ErrRange
		}
		if e.Replica <= above {
			return api.ErrOrder
		}
		above = e.Replica
	}
	return api.OK
}

// known is how far each replica is known.
func known(l []api.Entry) map[int]int {
	m := map[int]int{}
	for _, e := range l {
		m[e.Replica] = e.Time
	}
	return m
}

// spelled is what 10.1 tells of a batch, of whose writes nothing but their kinds, times of 0, their order and their bounds may be wrong.
func spelled(b api.Batch) (api.Errno, int) {
	for _, e := range []api.Errno{told(b.From), told(b.Have)} {
		if e != api.OK {
			return e, -1
		}
	}
	from, have := known(b.From), known(b.Have)
	for replica, time := range from {
		if have[replica] < time {
			return api.ErrFalse, -1
		}
	}
	if len(b.Writes) > 60 {
		return api.ErrLimit, -1
	}
	time, replica := 0, 0
	for i, w := range b.Writes {
		switch {
		case w.Kind != api.Put:
			return api.ErrArg, i
		case w.Id.Time == 0:
			return api.ErrRange, i
		case w.Id.Time < time || w.Id.Time == time && w.Id.Replica <= replica && i > 0:
			return api.ErrOrder, i
		case w.Id.Time <= from[w.Id.Replica] || w.Id.Time > have[w.Id.Replica]:
			return api.ErrState, i
		}
		time, replica = w.Id.Time, w.Id.Replica
	}
	return api.OK, -1
}

// vectors are all lists of up to two entries of three replicas and of times to 2, wrong ones, too, and some others.
func vectors() [][]api.Entry {
	l := [][]api.Entry{nil, of(at(0, 2), at(1, 2), at(2, 2)), many(17, 1), of(at(1, 1<<40+1)), of(at(-1, 1))}
	for i := range 9 {
		a := at(i/3, i%3)
		l = append(l, of(a))
		for j := range 9 {
			l = append(l, of(a, at(j/3, j%3)))
		}
	}
	return l
}

// lists are all lists of up to so many writes of three replicas and of times to 3, wrong ones, too.
func lists(most int) [][]api.Write {
	last := [][]api.Write{nil}
	all := last
	for range most {
		var next [][]api.Write
		for _, l := range last {
			for i := range 12 {
				next = append(next, append(slices.Clone(l), put(i/3, i%3)))
			}
			next = append(next, append(slices.Clone(l), api.Write{Id: api.Id{Time: 2, Replica: 1}, Kind: 5}))
		}
		all = append(all, next...)
		last = next
	}
	return all
}

// Promises 10.1, P3: all short vectors with all short lists of writes, against what the promise says, spelled out.
func TestRightOfAllShortBatches(t *testing.T) {
	seen := map[api.Errno]int{}
	check := func(b api.Batch) {
		e, place := spelled(b)
		seen[e]++
		checkRight(t, "short", b, e, place)
	}
	short, longer := lists(2), lists(3)
	for _, from := range vectors() {
		for _, have := range vectors() {
			if e, _ := spelled(bound(from, have)); e != api.OK {
				check(bound(from, have))
				check(bound(from, have, api.Write{}))
				check(bound(from, have, row(61, 1)...))
				continue
			}
			for _, l := range short {
				check(bound(from, have, l...))
			}
		}
	}
	for _, from := range [][]api.Entry{nil, of(at(0, 1)), of(at(1, 2)), of(at(0, 1), at(2, 1))} {
		for _, l := range longer {
			check(bound(from, of(at(0, 2), at(1, 2), at(2, 2)), l...))
		}
	}
	for _, e := range []api.Errno{api.OK, api.ErrLimit, api.ErrRange, api.ErrOrder, api.ErrFalse, api.ErrArg, api.ErrState} {
		if seen[e] < 50 {
			t.Errorf("error %d was told but %d times", e, seen[e])
		}
	}
}

// changed are batches that are a given one but for one thing each.
func changed(b api.Batch) []api.Batch {
	var l []api.Batch
	add := func(change func(*api.Batch)) {
		c := api.Batch{From: slices.Clone(b.From), Have: slices.Clone(b.Have), Writes: slices.Clone(b.Writes)}
		change(&c)
		l = append(l, c)
	}
	add(func(c *api.Batch) { c.From = append(c.From, at(200, 1)) })
	add(func(c *api.Batch) { c.From = append(c.From, at(0, 0)) })
	add(func(c *api.Batch) { c.Have = append(c.Have, at(200, 1)) })
	add(func(c *api.Batch) { c.Have = append(c.Have, at(0, 0)) })
	add(func(c *api.Batch) { c.Writes = append(c.Writes, put(1<<40, 0)) })
	add(func(c *api.Batch) { c.Writes = append(c.Writes, api.Write{}) })
	for i := range b.From {
		add(func(c *api.Batch) { c.From[i].Replica++ })
		add(func(c *api.Batch) { c.From[i].Time-- })
		add(func(c *api.Batch) { c.From = slices.Delete(c.From, i, i+1) })
	}
	for i := range b.Have {
		add(func(c *api.Batch) { c.Have[i].Replica-- })
		add(func(c *api.Batch) { c.Have[i].Time++ })
		add(func(c *api.Batch) { c.Have = slices.Delete(c.Have, i, i+1) })
	}
	for i := range b.Writes {
		add(func(c *api.Batch) { c.Writes[i].Id.Time++ })
		add(func(c *api.Batch) { c.Writes[i].Id.Replica++ })
		add(func(c *api.Batch) { c.Writes[i].Kind++ })
		add(func(c *api.Batch) { c.Writes[i].Key += "\x00" })
		add(func(c *api.Batch) { c.Writes[i].Value += "x" })
		add(func(c *api.Batch) { c.Writes[i].N-- })
		add(func(c *api.Batch) { c.Writes = slices.Delete(c.Writes, i, i+1) })
	}
	return l
}

// copied is a batch in memory of its own, with something else behind the lengths of its lists; empty ones are not nil.
func copied(b api.Batch) api.Batch {
	return api.Batch{
		From:   append(append(of(), b.From...), at(7, 7))[:len(b.From)],
		Have:   append(append(of(), b.Have...), at(7, 7))[:len(b.Have)],
		Writes: append(append([]api.Write{}, b.Writes...), put(7, 7))[:len(b.Writes)],
	}
}

// Promises 10.1, P5: a batch is the same as itself and its copy, and as no other one, whatever it is in that they are not the same.
func TestSameOfGoods(t *testing.T) {
	all := goods()
	for i, a := range all {
		checkSame(t, a, a, true)
		checkSame(t, a, copied(a), true)
		for j, b := range all {
			checkSame(t, a, copied(b), i == j)
		}
		for _, b := range changed(a) {
			checkSame(t, a, b, false)
			checkSame(t, b, copied(b), true)
		}
	}
}

// Promises 10.1, P1: Same asks of no batch that it be right, nor that its lists be in order.
func TestSameOfWrongs(t *testing.T) {
	x, y := at(math.MaxInt, math.MinInt), at(-1, 0)
	v, w := api.Write{Kind: math.MinInt, N: math.MaxInt}, api.Write{Id: api.Id{Time: -1, Replica: 1000}, Key: strings.Repeat("\xff", 3000)}
	all := []api.Batch{
		bound(of(x), nil), bound(nil, of(x)), bound(of(x), of(x)),
		bound(of(x, y), nil), bound(of(y, x), nil), bound(of(x, x), nil), bound(of(x), of(y)), bound(of(y), of(x)),
		bound(nil, of(x, y)), bound(nil, of(y, x)), bound(nil, of(x, x)),
		bound(nil, nil, v), bound(nil, nil, w), bound(nil, nil, v, w), bound(nil, nil, w, v), bound(nil, nil, v, v),
		bound(of(x), of(y), v), bound(of(x), of(y), w), bound(of(y), of(x), w),
		bound(many(17, 0), many(17, 1)), bound(many(17, 1), many(17, 0)), bound(nil, nil, make([]api.Write, 61)...), bound(nil, nil, make([]api.Write, 62)...),
		{},
	}
	for i, a := range all {
		for j, b := range all {
			checkSame(t, a, copied(b), i == j)
		}
	}
}

// Promise 10.1: an empty list is as none, in each of the three, and none is as no list of one.
func TestSameOfEmptyLists(t *testing.T) {
	for i := range 8 {
		b := goods()[2]
		var a api.Batch
		if i&1 > 0 {
			a.From = of()
		}
		if i&2 > 0 {
			a.Have = of()
		}
		if i&4 > 0 {
			a.Writes = []api.Write{}
		}
		checkSame(t, a, api.Batch{}, true)
		checkRight(t, "empty", a, api.OK, -1)
		checkSame(t, a, b, false)
		checkSame(t, a, api.Batch{From: of(api.Entry{})}, false)
		checkSame(t, a, api.Batch{Have: of(api.Entry{})}, false)
		checkSame(t, a, api.Batch{Writes: make([]api.Write, 1)}, false)
	}
}

// whole is a batch's copy, and that of what stands behind the lengths of its lists.
func whole(b api.Batch) [3]any {
	return [3]any{
		slices.Clone(b.From[:cap(b.From)]),
		slices.Clone(b.Have[:cap(b.Have)]),
		slices.Clone(b.Writes[:cap(b.Writes)]),
	}
}

// Promise P4: nothing is written into lists that are handed in, nor behind them, nor kept of them.
func TestNothingIsWrittenOrKept(t *testing.T) {
	all := goods()
	for _, b := range goods() {
		all = append(all, changed(b)...)
	}
	for i, b := range all {
		a := copied(b)
		before := whole(a)
		e, place := plain.Place(batch.Right(a))
		same := batch.Same(a, a) && !batch.Same(a, all[(i+1)%len(all)])
		if !same || !reflect.DeepEqual(whole(a), before) {
			t.Errorf("%s was written into", show(b))
		}
		clear(a.From)
		clear(a.Have)
		clear(a.Writes)
		checkRight(t, "once more", b, e, place)
		checkSame(t, b, copied(b), true)
	}
}

// Promise P4: what stands behind a list's length is not asked for.
func TestNothingBehindIsAskedFor(t *testing.T) {
	good := bound(nil, of(at(3, 7)), put(7, 3))
	b := api.Batch{From: many(17, 9)[:0], Have: append(good.Have, at(1, 0))[:1], Writes: append(good.Writes, api.Write{}, put(1, 1))[:1]}
	checkRight(t, "wrong ones behind", b, api.OK, -1)
	checkSame(t, b, good, true)
}

// Promise P1: batches of very many entries and writes.
func TestVeryMany(t *testing.T) {
	long := func() api.Batch { return bound(many(1<<18, 1), many(1<<18, 2), row(1<<18, 1)...) }
	a, b := long(), long()
	checkRight(t, "very many", a, api.ErrLimit, -1)
	checkSame(t, a, b, true)
	b.Writes[len(b.Writes)-1].N = 1
	checkSame(t, a, b, false)
}
