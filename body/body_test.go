package body_test

import (
	"encoding/hex"
	"fmt"
	"math"
	"reflect"
	"slices"
	"strings"
	"testing"
	"unsafe"

	"packtrain/api"
	"packtrain/batch"
	"packtrain/body"
	"packtrain/plain"
)

// at is an entry.
func at(replica, time int) api.Entry { return api.Entry{Replica: replica, Time: time} }

// of is a list of entries.
func of(l ...api.Entry) []api.Entry { return l }

// id is an id.
func id(time, replica int) api.Id { return api.Id{Time: time, Replica: replica} }

// x is a text of so many bytes.
func x(n int) string { return strings.Repeat("x", n) }

// put, drop, add and insert are writes of each kind.
func put(i api.Id, key, value string) api.Write {
	return api.Write{Id: i, Kind: api.Put, Key: key, Value: value}
}
func drop(i api.Id, key string) api.Write { return api.Write{Id: i, Kind: api.Drop, Key: key} }
func add(i api.Id, key string, n int) api.Write {
	return api.Write{Id: i, Kind: api.Add, Key: key, N: n}
}
func insert(i api.Id, key string, n int, value string) api.Write {
	return api.Write{Id: i, Kind: api.Insert, Key: key, Value: value, N: n}
}

// bound is a batch from one vector to another, with some writes.
func bound(from, have []api.Entry, l ...api.Write) api.Batch {
	return api.Batch{From: from, Have: have, Writes: l}
}

// many are so many entries of replicas from 0 on, each so far from the one ahead.
func many(n, step, time int) []api.Entry {
	var l []api.Entry
	for i := range n {
		l = append(l, at(i*step, time))
	}
	return l
}

// row are so many writes of a replica, from time 1 on, each of a key of its own.
func row(n, replica int) []api.Write {
	var l []api.Write
	for i := range n {
		l = append(l, put(id(i+1, replica), fmt.Sprint("key", i), "v"))
	}
	return l
}

// big is a batch whose body has so many bytes (20,000, or a few less or more).
func big(n int) api.Batch {
	b := bound(nil, of(at(3, 60)), row(60, 3)...)
	for i := range b.Writes {
		b.Writes[i].Key += x(30)
		b.Writes[i].Value = x(290)
	}
	left := n - len(spelled(b))
	for i := range b.Writes {
		more := min(left, 10)
		b.Writes[i].Value += x(more)
		left -= more
	}
	return b
}

// mixed are so many writes of three replicas, of all kinds and few keys.
func mixed(n int) api.Batch {
	b := bound(of(at(1, 2), at(9, 1)), of(at(0, 99), at(1, 99), at(5, 1<<40), at(9, 1)))
	for i := range n {
		w := api.Write{Id: id(3+i/2, []int{0, 1, 5}[i%2+i/2%2]), Kind: 1 + i%4, Key: []string{"a", "key", "", "\xff\x00", x(40)}[i%5]}
		switch w.Kind {
		case api.Put:
			w.Value = x(i * 5)
		case api.Add:
			w.N = (i - 20) << (i % 45)
		case api.Insert:
			w.Value, w.N = "item", i*16
		}
		b.Writes = append(b.Writes, w)
	}
	return b
}

// goods are batches with nothing wrong, no two of them the same.
func goods() []api.Batch {
	l := []api.Batch{
		{},
		bound(nil, of(at(3, 7))),
		bound(of(at(3, 7)), of(at(3, 7))),
		bound(nil, of(at(3, 7)), put(id(7, 3), "k", "v")),
		bound(of(at(3, 6)), of(at(3, 7)), put(id(7, 3), "k", "v")),
		bound(nil, of(at(3, 7)), drop(id(7, 3), "")),
		bound(nil, of(at(3, 7)), drop(id(7, 3), x(40))),
		bound(nil, of(at(3, 7)), drop(id(1, 3), "b"), drop(id(2, 3), "a"), drop(id(3, 3), "b"), drop(id(7, 3), "c")),
		bound(nil, of(at(0, 1<<40), at(200, 1<<40)), add(id(1, 0), "n", 0), add(id(1, 200), "n", -1), add(id(1<<40, 0), "m", 1<<50), add(id(1<<40, 200), "n", -1<<50)),
		bound(nil, of(at(1, 9)), insert(id(1, 1), "l", 0, ""), insert(id(2, 1), "l", 1000, x(300)), put(id(9, 1), "l", "")),
		bound(many(16, 1, 1), many(16, 1, 300), put(id(2, 0), "", ""), drop(id(2, 15), ""), add(id(299, 7), "", 64), insert(id(300, 8), "", 128, x(128))),
		bound(nil, many(16, 13, 1<<40), drop(id(1, 195), "a"), drop(id(1<<40, 0), "b")),
		bound(of(at(5, 1), at(9, 2)), of(at(1, 1), at(5, 1), at(7, 1), at(9, 3)), drop(id(1, 1), "\xff\x80\x00"), drop(id(1, 7), "\n"), drop(id(3, 9), "\xff\x80\x00")),
		bound(nil, of(at(2, 60)), row(60, 2)...),
		bound(nil, of(at(2, 60)), row(59, 2)...),
		big(19999),
		big(20000),
	}
	for n := 1; n <= 60; n++ {
		l = append(l, mixed(n))
	}
	return l
}

// number is a number as 1.1 has it, spelled out: seven bits a byte, the lowest first.
func number(n uint64) string {
	if n < 128 {
		return string([]byte{byte(n)})
	}
	return string([]byte{byte(n%128 + 128)}) + number(n/128)
}

// text is a text as 2.1 has it, spelled out.
func text(s string) string { return number(uint64(len(s))) + s }

// vector is a vector as 6.2 has it, spelled out by asking each replica there may be whether it is in it.
func vector(l []api.Entry) string {
	var times [api.MaxReplica + 2]int
	for _, e := range l {
		times[e.Replica] = e.Time
	}
	runs, gap, s := 0, 0, ""
	for r := 0; r <= api.MaxReplica; {
		size, all := 0, ""
		for ; times[r+size] > 0; size++ {
			all += number(uint64(times[r+size]))
		}
		if size == 0 {
			r, gap = r+1, gap+1
			continue
		}
		s += number(uint64(gap)) + number(uint64(size-1)) + all
		// The replica behind a run isn't in it: it is the one that no gap counts.
		runs, gap, r = runs+1, 0, r+size+1
	}
	return number(uint64(runs)) + s
}

// tail is a write's tail as 9.2 has it, spelled out.
func tail(w api.Write) string {
	switch w.Kind {
	case api.Put:
		return text(w.Value)
	case api.Add:
		if w.N < 0 {
			return number(2*uint64(-w.N) - 1)
		}
		return number(2 * uint64(w.N))
	case api.Insert:
		return number(uint64(w.N)) + text(w.Value)
	}
	return ""
}

// draft is what a body tells, in its own words: a batch that may be wrong.
type draft struct {
	from, have []api.Entry
	texts      []string
	writes     []line
}

// line is what a body tells of a write.
type line struct {
	kind, later, replica, key, n int
	value                        string
}

// sketch is a batch's draft.
func sketch(b api.Batch) draft {
	d := draft{from: b.From, have: b.Have}
	ahead := 0
	for _, w := range b.Writes {
		if !slices.Contains(d.texts, w.Key) {
			d.texts = append(d.texts, w.Key)
		}
		l := line{w.Kind, w.Id.Time - ahead, 0, slices.Index(d.texts, w.Key), w.N, w.Value}
		for i, e := range b.Have {
			if e.Replica == w.Id.Replica {
				l.replica = i
			}
		}
		d.writes = append(d.writes, l)
		ahead = w.Id.Time
	}
	return d
}

// batch is a draft's batch.
func (d draft) batch() api.Batch {
	b := bound(d.from, d.have)
	time := 0
	for _, l := range d.writes {
		time += l.later
		b.Writes = append(b.Writes, api.Write{Id: id(time, d.have[l.replica].Replica), Kind: l.kind, Key: d.texts[l.key], Value: l.value, N: l.n})
	}
	return b
}

// field is a thing that errors tell of by where it begins: what it is, its bytes, and that.
type field struct {
	what, s string
	begins  int
	write   int // of which write it is
}

// fields are the fields of a draft.
func (d draft) fields() []field {
	var l []field
	size, write := 0, -1
	put := func(what, s string) {
		l = append(l, field{what, s, size, write})
		size += len(s)
	}
	put("from", vector(d.from))
	put("have", vector(d.have))
	put("texts", number(uint64(len(d.texts))))
	for _, s := range d.texts {
		put("text", text(s))
	}
	put("writes", number(uint64(len(d.writes))))
	for i, w := range d.writes {
		write = i
		put("kind", string([]byte{byte(w.kind)}))
		put("time", number(uint64(w.later)))
		put("replica", number(uint64(w.replica)))
		put("key", number(uint64(w.key)))
		put("tail", tail(api.Write{Kind: w.kind, N: w.n, Value: w.value}))
	}
	return l
}

// bytes are a draft's body.
func (d draft) bytes() string {
	var s strings.Builder
	for _, f := range d.fields() {
		s.WriteString(f.s)
	}
	return s.String()
}

// spelled is a batch's body as 11.1 has it, spelled out.
func spelled(b api.Batch) string { return sketch(b).bytes() }

// show is a thing as a text that isn't too long.
func show(thing any) string { return fmt.Sprintf("%.200s", fmt.Sprintf("%+v", thing)) }

// checkWrite asks for a batch's body.
func checkWrite(t *testing.T, b api.Batch, want string) {
	t.Helper()
	if s, err := body.Write(b); s != want || err != nil {
		t.Errorf("Write(%s) = %.200x, %v; want %.200x", show(b), s, err, want)
	}
}

// checkUnwritten asks for an error, its place (-1: none), and no bytes with it.
func checkUnwritten(t *testing.T, name string, b api.Batch, want api.Errno, place int) {
	t.Helper()
	s, err := body.Write(b)
	if e, p := plain.Place(err); s != "" || e != want || p != place {
		t.Errorf("%s: Write(%s) = %.200x, error %d at %d; want error %d at %d", name, show(b), s, e, p, want, place)
	}
}

// checkRead asks for the batch that bytes are.
func checkRead(t *testing.T, s string, want api.Batch) {
	t.Helper()
	if b, err := body.Read(s); !batch.Same(b, want) || err != nil {
		t.Errorf("Read(%.200x) = %s, %v; want %s", s, show(b), err, show(want))
	}
}

// checkUnread asks for an error, its place (-1: none), and nothing of a batch with it.
func checkUnread(t *testing.T, name, s string, want api.Errno, place int) {
	t.Helper()
	b, err := body.Read(s)
	if e, p := plain.Place(err); !batch.Same(b, api.Batch{}) || e != want || p != place {
		t.Errorf("%s: Read(%.200x) = %s, error %d at %d; want error %d at %d", name, s, show(b), e, p, want, place)
	}
}

// bin is the text of hexadecimal digits.
func bin(t *testing.T, s string) string {
	t.Helper()
	b, err := hex.DecodeString(strings.ReplaceAll(s, " ", ""))
	if err != nil {
		t.Fatal(err)
	}
	return string(b)
}

// Promises 11.1, 11.2: bodies byte by byte, both ways.
func TestKnownBodies(t *testing.T) {
	for _, c := range []struct {
		b    api.Batch
		want string
	}{
		{api.Batch{}, "00 00 00 00"},
		{api.Batch{From: of(), Have: of(), Writes: []api.Write{}}, "00 00 00 00"},
		{bound(nil, of(at(3, 7)), put(id(7, 3), "k", "v")), "00 01030007 01 016b 01 01 07 00 00 0176"},
		{bound(of(at(1, 5), at(2, 9), at(7, 1)), of(at(1, 5), at(2, 9), at(7, 1))), "0201010509030001 0201010509030001 00 00"},
		{bound(of(at(3, 6)), of(at(3, 7)), drop(id(7, 3), "")), "01030006 01030007 01 00 01 02 07 00 00"},
		{bound(nil, of(at(0, 300), at(5, 300), at(200, 300)),
			add(id(2, 5), "b", -1), insert(id(2, 200), "", 300, "v"), put(id(300, 0), "b", ""), drop(id(300, 5), "c")),
			"00 03 0000ac02 0300ac02 c10100ac02 03 0162 00 0163 04" +
				"03 02 01 00 01" + "04 00 02 01 ac020176" + "01 aa02 00 00 00" + "02 00 01 02"},
	} {
		s := bin(t, c.want)
		checkWrite(t, c.b, s)
		checkRead(t, s, c.b)
	}
}

// Promises 11.1, 11.2, P5: what is written is as the promise spells it out, and is read.
func TestGoodsAreWrittenAndRead(t *testing.T) {
	for _, b := range goods() {
		s := spelled(b)
		checkWrite(t, b, s)
		checkRead(t, s, b)
	}
}

// Promise 11.1: keys come in the order in which they come first, each once, however few or many there are.
func TestKeysComeOnce(t *testing.T) {
	for _, c := range []struct{ keys, table, numbers string }{
		{"a", "a", "0"},
		{"aa", "a", "00"},
		{"ba", "ba", "01"},
		{"baab", "ba", "0110"},
		{"cabcba", "cab", "012021"},
		{"zzyzxyz", "zyx", "0010210"},
	} {
		b := bound(nil, of(at(2, 9)))
		want := draft{have: b.Have, texts: strings.Split(c.table, "")}
		for i, key := range strings.Split(c.keys, "") {
			b.Writes = append(b.Writes, drop(id(1+i, 2), key))
			want.writes = append(want.writes, line{kind: api.Drop, later: 1, key: int(c.numbers[i] - '0')})
		}
		checkWrite(t, b, want.bytes())
		checkRead(t, want.bytes(), b)
	}
}

// badBatches are batches with something wrong: what, and with which write (-1: with none).
func badBatches() []badBatch {
	have := of(at(1, 99), at(3, 99), at(5, 99))
	good := put(id(7, 3), "k", "v")
	with := func(l ...api.Write) api.Batch { return bound(of(at(1, 2)), have, l...) }
	return []badBatch{
		{"From: more than 16", bound(many(17, 1, 1), have, good), api.ErrLimit, -1},
		{"From: a time of 0", bound(of(at(3, 0)), have, good), api.ErrRange, -1},
		{"From: a replica above the most", bound(of(at(1, 1), at(201, 1)), have, good), api.ErrRange, -1},
		{"From: the greatest replica", bound(of(at(math.MaxInt, 1)), have, good), api.ErrRange, -1},
		{"From: not in order", bound(of(at(3, 1), at(1, 1)), have, good), api.ErrOrder, -1},
		{"From and Have", bound(of(at(3, 1), at(1, 1)), many(17, 1, 1), good), api.ErrOrder, -1},
		{"Have: more than 16", bound(nil, many(17, 1, 9), good), api.ErrLimit, -1},
		{"Have: a time above the most", bound(nil, of(at(3, 1<<40+1)), good), api.ErrRange, -1},
		{"Have: a replica below 0", bound(nil, of(at(-1, 1), at(3, 9)), good), api.ErrRange, -1},
		{"Have: a replica twice", bound(nil, of(at(3, 9), at(3, 9)), good), api.ErrOrder, -1},
		{"Have doesn't cover From", bound(of(at(3, 8)), of(at(3, 7)), good), api.ErrFalse, -1},
		{"Have has nothing of From", bound(of(at(1, 1)), of(at(3, 7)), good, good), api.ErrFalse, -1},
		{"more than 60 writes", bound(nil, of(at(3, 99)), row(61, 3)...), api.ErrLimit, -1},
		{"more than 60 writes, all wrong", with(make([]api.Write, 61)...), api.ErrLimit, -1},
		{"very many writes", with(make([]api.Write, 1<<17)...), api.ErrLimit, -1},
		{"no kind", with(api.Write{}), api.ErrArg, 0},
		{"another kind", with(good, api.Write{Id: id(8, 3), Kind: 5}), api.ErrArg, 1},
		{"a kind that a byte doesn't have", with(good, api.Write{Id: id(8, 3), Kind: 257}), api.ErrArg, 1},
		{"no time", with(put(id(0, 3), "k", "v")), api.ErrRange, 0},
		{"a time above the most", with(good, put(id(1<<40+1, 3), "k", "v")), api.ErrRange, 1},
		{"a key above the most", with(good, put(id(8, 3), x(41), "v")), api.ErrLimit, 1},
		{"a key that no text has", with(put(id(8, 3), x(2001), "v")), api.ErrLimit, 0},
		{"a value above the most", with(good, put(id(8, 3), "k", x(301))), api.ErrLimit, 1},
		{"a Drop with a value", with(good, good, api.Write{Id: id(8, 3), Kind: api.Drop, Value: "v"}), api.ErrOrder, 1},
		{"a Drop with a value, in order", with(api.Write{Id: id(8, 3), Kind: api.Drop, Value: "v"}), api.ErrForm, 0},
		{"a number above the most", with(add(id(8, 3), "k", 1<<50+1)), api.ErrRange, 0},
		{"a place below 0", with(good, insert(id(8, 3), "k", -1, "v")), api.ErrRange, 1},
		{"an earlier time", with(good, put(id(6, 5), "k", "v")), api.ErrOrder, 1},
		{"a lower replica", with(good, put(id(8, 3), "k", "v"), put(id(8, 1), "k", "v")), api.ErrOrder, 2},
		{"as far as From", with(put(id(2, 1), "k", "v"), good), api.ErrState, 0},
		{"behind Have", with(good, put(id(100, 5), "k", "v")), api.ErrState, 1},
		{"a replica that Have hasn't", with(good, put(id(8, 2), "k", "v")), api.ErrState, 1},
		{"nothing is known", bound(nil, nil, good), api.ErrState, 0},
	}
}

// badBatch is a batch with something wrong, and with which write.
type badBatch struct {
	name  string
	b     api.Batch
	want  api.Errno
	place int
}

// Promises 11.1, P1, P2, P3: what is wrong with a batch is told as batch tells it, and nothing is written.
func TestWriteTellsWhatIsWrong(t *testing.T) {
	for _, c := range badBatches() {
		checkUnwritten(t, c.name, c.b, c.want, c.place)
	}
}

// Promise 11.1: no more than 20,000 bytes; what is wrong with the batch is told ahead of that.
func TestWriteTellsTooManyBytes(t *testing.T) {
	for n := 19990; n <= 20010; n++ {
		b := big(n)
		s := spelled(b)
		if len(s) != n {
			t.Fatalf("big(%d) has %d bytes", n, len(s))
		}
		if n <= 20000 {
			checkWrite(t, b, s)
		} else {
			checkUnwritten(t, fmt.Sprint(n), b, api.ErrLimit, -1)
		}
		b.Writes[59].N = 1
		checkUnwritten(t, "a wrong one", b, api.ErrForm, 59)
		b.Writes[59] = b.Writes[58]
		checkUnwritten(t, "one twice", b, api.ErrOrder, 59)
	}
	most := bound(many(16, 12, 1<<40-60), many(16, 12, 1<<40))
	for i := range 60 {
		most.Writes = append(most.Writes, insert(id(1<<40-59+i, 180), fmt.Sprintf("%040d", i), 1000, x(300)))
	}
	checkUnwritten(t, "the most that there may be", most, api.ErrLimit, -1)
}

// Promise 11.2: a body of 20,000 bytes is read; more are too many, whatever they are, without a place.
func TestReadTellsTooManyBytes(t *testing.T) {
	checkRead(t, spelled(big(20000)), big(20000))
	checkUnread(t, "20,001 that are a batch", spelled(big(20001)), api.ErrLimit, -1)
	checkUnread(t, "20,000, and one more", spelled(big(20000))+"\x00", api.ErrLimit, -1)
	checkUnread(t, "19,999, and one more", spelled(big(19999))+"\x00", api.ErrForm, 19999)
	for _, c := range []string{"\x00", "\x80", "\xff"} {
		checkUnread(t, "20,001", strings.Repeat(c, 20001), api.ErrLimit, -1)
		checkUnread(t, "very many", strings.Repeat(c, 1<<22), api.ErrLimit, -1)
	}
	checkUnread(t, "20,000 that are none", strings.Repeat("\x00", 20000), api.ErrForm, 4)
	checkUnread(t, "20,000 that are no vector", strings.Repeat("\xff", 20000), api.ErrLimit, 0)
}

// Promises 11.2, P2, P3: no beginning of a body is one: something is missing, where what isn't whole begins.
func TestReadMissesTheEnd(t *testing.T) {
	for _, b := range goods() {
		fields := sketch(b).fields()
		s := spelled(b)
		for _, f := range fields {
			for i := range min(len(f.s), 50) {
				checkUnread(t, f.what, s[:f.begins+i], api.ErrMissing, f.begins)
			}
			if f.s != "" {
				checkUnread(t, f.what, s[:f.begins+len(f.s)-1], api.ErrMissing, f.begins)
			}
		}
	}
}

// wrong is what no field is, and what is told of it.
type wrong struct {
	s    string
	want api.Errno
}

// wrongNumbers are no numbers up to a bound, whatever stands behind.
func wrongNumbers(most int) []wrong {
	l := []wrong{
		{"\x80\x00", api.ErrForm},
		{"\xff\x80\x00", api.ErrForm},
		{strings.Repeat("\xff", 9) + "\x02", api.ErrLimit},
		{strings.Repeat("\x80", 10), api.ErrLimit},
		{number(math.MaxUint64), api.ErrRange},
		{number(1 << 63), api.ErrRange},
		{number(uint64(most + 1)), api.ErrRange},
		{number(uint64(most + 2)), api.ErrRange},
	}
	return l
}

// wrongTexts are no texts, whatever stands behind.
func wrongTexts() []wrong {
	return []wrong{
		{"\x80\x00", api.ErrForm},
		{strings.Repeat("\xff", 9) + "\x02", api.ErrLimit},
		{number(math.MaxUint64), api.ErrLimit},
		{text(x(2001)), api.ErrLimit},
		{number(2001), api.ErrLimit},
	}
}

// wrongTails are no tails of a kind, whatever stands behind.
func wrongTails(kind int) []wrong {
	signed := func(n int) string { return tail(api.Write{Kind: api.Add, N: n}) }
	switch kind {
	case api.Put:
		return append(wrongTexts(), wrong{text(x(301)), api.ErrLimit}, wrong{text(x(2000)), api.ErrLimit})
	case api.Add:
		return []wrong{
			{"\x80\x00", api.ErrForm},
			{strings.Repeat("\xff", 9) + "\x02", api.ErrLimit},
			{number(math.MaxUint64), api.ErrRange},
			{signed(1<<50 + 1), api.ErrRange},
			{signed(-1<<50 - 1), api.ErrRange},
		}
	case api.Insert:
		l := append(wrongNumbers(1000), wrong{"\x01" + text(x(301)), api.ErrLimit})
		for _, w := range wrongTexts() {
			l = append(l, wrong{"\xe8\x07" + w.s, w.want})
		}
		return l
	}
	return nil
}

// wrongVectors are no vectors, whatever stands behind.
func wrongVectors() []wrong {
	l := wrongNumbers(16)
	for _, w := range wrongNumbers(200) {
		l = append(l, wrong{"\x01" + w.s, w.want}, wrong{"\x02\x00\x00\x01" + w.s, w.want})
	}
	for _, w := range wrongNumbers(16) {
		l = append(l, wrong{"\x01\x05" + w.s, w.want})
	}
	for _, w := range wrongNumbers(1 << 40) {
		l = append(l, wrong{"\x01\x05\x00" + w.s, w.want})
	}
	return append(l,
		wrong{"\x01\x00\x00\x00", api.ErrRange},
		wrong{"\x01\xc8\x01\x01\x01\x01", api.ErrRange},
		wrong{"\x01\x00\x10" + strings.Repeat("\x01", 17), api.ErrLimit},
		wrong{"\x02\x00\x0f" + strings.Repeat("\x01", 16) + "\x00\x00\x01", api.ErrLimit},
	)
}

// wrongs are what a draft's field is not, and what is told of that.
func wrongs(d draft, f field) []wrong {
	switch f.what {
	case "from", "have":
		return wrongVectors()
	case "texts", "writes":
		return wrongNumbers(60)
	case "text":
		return wrongTexts()
	case "kind":
		return []wrong{{"\x00", api.ErrArg}, {"\x05", api.ErrArg}, {"\x80", api.ErrArg}, {"\x81", api.ErrArg}, {"\xff", api.ErrArg}}
	case "time":
		l := append(wrongNumbers(1<<40), wrongNumbers(1<<40-d.ahead(f.write))...)
		return append(l, wrong{number(1<<40 + 1), api.ErrRange}, wrong{number(1<<40 - uint64(d.ahead(f.write)) + 1), api.ErrRange})
	case "replica":
		return wrongNumbers(len(d.have) - 1)
	case "key":
		return wrongNumbers(len(d.texts) - 1)
	}
	return wrongTails(d.writes[f.write].kind)
}

// ahead is the time of the write ahead of the one of a number.
func (d draft) ahead(write int) int {
	time := 0
	for _, l := range d.writes[:write] {
		time += l.later
	}
	return time
}

// Promises 11.2, P2, P3: each field of good bodies made wrong in each way: what is told is where it begins, whatever stands behind.
func TestReadTellsTheFirstWrongField(t *testing.T) {
	for i, b := range goods() {
		if i > 30 { // those behind have the same fields as these
			break
		}
		d := sketch(b)
		s := d.bytes()
		for _, f := range d.fields() {
			for _, w := range wrongs(d, f) {
				for _, rest := range []string{"", s[f.begins+len(f.s):], "\x00", "\xff\xff\xff\xff", "\x05\x80\x00"} {
					if all := s[:f.begins] + w.s + rest; len(all) <= 20000 {
						checkUnread(t, f.what, all, w.want, f.begins)
					}
				}
			}
		}
	}
}

// Promises 11.2, P3: known bodies with something wrong, byte by byte; of several things the one that comes first.
func TestReadTellsWhatIsWrong(t *testing.T) {
	const head, writes = "00 01030007 01 016b", "00 01030007 01 016b 01"
	for _, c := range []struct {
		name, s string
		want    api.Errno
		place   int
	}{
		{"nothing", "", api.ErrMissing, 0},
		{"no Have", "00", api.ErrMissing, 1},
		{"a wrong Have behind a From of four bytes", "01030006 01030000 00 00", api.ErrRange, 4},
		{"a From without an end", "01030080", api.ErrMissing, 0},
		{"61 keys", "00 00 3d", api.ErrRange, 2},
		{"60 keys, but none there", "00 00 3c", api.ErrMissing, 3},
		{"the second key", "00 00 02 0161 0262", api.ErrMissing, 5},
		{"61 writes", head + "3d", api.ErrRange, 8},
		{"60 writes, but none there", head + "3c", api.ErrMissing, 9},
		{"no kind", writes + "00 07 00 00 0176", api.ErrArg, 9},
		{"kind 5", writes + "05 07 00 00 0176", api.ErrArg, 9},
		{"kind 129", writes + "8101 07 00 00 0176", api.ErrArg, 9},
		{"a wrong kind, and nothing behind", writes + "05", api.ErrArg, 9},
		{"a time above the most", writes + "01 818080808020 00 00 0176", api.ErrRange, 10},
		{"the greatest time: behind Have", writes + "01 808080808020 00 00 0176", api.ErrState, 20},
		{"a replica that isn't there", writes + "01 07 01 00 0176", api.ErrRange, 11},
		{"a replica of two bytes", writes + "01 07 8000 00 0176", api.ErrForm, 11},
		{"a key that isn't there", writes + "01 07 00 01 0176", api.ErrRange, 12},
		{"a value without an end", writes + "01 07 00 00 0276", api.ErrMissing, 13},
		{"a time of 0", writes + "01 00 00 00 0176", api.ErrRange, 13},
		{"a time of 0, and a value without an end", writes + "01 00 00 00 0276", api.ErrMissing, 13},
		{"a time of 0 of a Drop", writes + "02 00 00 00", api.ErrRange, 13},
		{"one more byte", writes + "01 07 00 00 0176 00", api.ErrForm, 15},
		{"one more byte behind nothing", "00 00 00 00 00", api.ErrForm, 4},
		{"a replica, and nothing known", "00 00 01 016b 01 01 07 00 00 0176", api.ErrRange, 8},
		{"a replica of two bytes, and nothing known", "00 00 01 016b 01 01 07 8000 00 0176", api.ErrForm, 8},
		{"a key, and none there", "00 01030007 00 01 01 07 00 00 0176", api.ErrRange, 10},
		{"all times together above the most", "00 0103008080808080 20 01 016b 02 02 808080808020 00 00 02 01 00 00", api.ErrRange, 24},
		{"all times together the most", "00 0103008080808080 20 01 016b 02 02 ffffffffff1f 00 00 02 01 00 00", api.OK, -1},
	} {
		s := bin(t, c.s)
		if c.want != api.OK {
			checkUnread(t, c.name, s, c.want, c.place)
		} else if _, err := body.Read(s); err != nil {
			t.Errorf("%s: %v", c.name, err)
		}
	}
}

// Promises 11.2, 9.2: a key above the most, or a time of 0, is told where the tail begins, of whichever kind it is, behind what can't be read there.
func TestReadTellsOfWritesAtTheirTails(t *testing.T) {
	for _, w := range []line{{kind: api.Put, value: "v"}, {kind: api.Drop}, {kind: api.Add, n: -64}, {kind: api.Insert, n: 300, value: "v"}} {
		for _, c := range []struct {
			key   string
			later int
			want  api.Errno
		}{{"k", 0, api.ErrRange}, {x(41), 0, api.ErrRange}, {x(2000), 0, api.ErrRange}, {x(41), 1, api.ErrLimit}, {x(2000), 7, api.ErrLimit}} {
			w.later = c.later
			d := draft{have: of(at(0, 9), at(3, 9)), texts: []string{c.key}, writes: []line{w}}
			fields, s := d.fields(), d.bytes()
			last := fields[len(fields)-1]
			for _, rest := range []string{"", "\x00", "\xff\xff\x00"} {
				checkUnread(t, "a wrong write", s+rest, c.want, last.begins)
			}
			for i := range len(last.s) {
				checkUnread(t, "a wrong write, not whole", s[:last.begins+i], api.ErrMissing, last.begins)
			}
		}
	}
}

// Promises 11.2, 8.1: wrong tables and numbers are told at the end, behind all else but what is wrong with the batch.
func TestReadTellsOfKeysAtTheEnd(t *testing.T) {
	for _, c := range []struct {
		name, texts, numbers string
		want                 api.Errno
	}{
		{"all right", "ab", "0101", api.OK},
		{"none, and no writes", "", "", api.OK},
		{"a key twice", "aba", "012", api.ErrTwice},
		{"a key twice, and no writes", "aa", "", api.ErrTwice},
		{"a key twice, not told of", "aa", "0", api.ErrTwice},
		{"a key twice, not in order", "aa", "10", api.ErrTwice},
		{"the second one first", "ab", "10", api.ErrFalse},
		{"the third one second", "abc", "021", api.ErrFalse},
		{"the third one second, the second one never", "abc", "02", api.ErrFalse},
		{"none of one", "a", "", api.ErrNone},
		{"one of two", "ab", "00", api.ErrNone},
		{"two of three", "abc", "0110", api.ErrNone},
	} {
		d := draft{have: of(at(3, 9))}
		for _, s := range c.texts {
			d.texts = append(d.texts, string(s))
		}
		for _, n := range c.numbers {
			d.writes = append(d.writes, line{kind: api.Drop, later: 1, key: int(n - '0')})
		}
		s := d.bytes()
		if c.want == api.OK {
			checkRead(t, s, d.batch())
			continue
		}
		checkUnread(t, c.name, s, c.want, len(s))
		checkUnread(t, c.name+", and more", s+"\x00", api.ErrForm, len(s))
		d.from = of(at(5, 1))
		s = d.bytes()
		checkUnread(t, c.name+", and not covered", s, c.want, len(s))
	}
}

// Promises 11.2, 10.1: what is wrong with the batch is told last, at the end, without a write's number.
func TestReadTellsOfTheBatchAtTheEnd(t *testing.T) {
	drops := func(l ...int) []line { // of each two numbers: how much later, and of which replica
		var all []line
		for i := 0; i < len(l); i += 2 {
			all = append(all, line{kind: api.Drop, later: l[i], replica: l[i+1]})
		}
		return all
	}
	for _, c := range []struct {
		name       string
		from, have []api.Entry
		writes     []line
		want       api.Errno
	}{
		{"all right", of(at(1, 2)), of(at(1, 9), at(3, 9)), drops(1, 1, 2, 0, 0, 1), api.OK},
		{"not covered", of(at(1, 9)), of(at(1, 8), at(3, 9)), drops(1, 1), api.ErrFalse},
		{"not covered, and not in order", of(at(1, 9)), of(at(1, 8), at(3, 9)), drops(1, 1, 0, 1), api.ErrFalse},
		{"twice", nil, of(at(1, 9), at(3, 9)), drops(1, 1, 0, 1), api.ErrOrder},
		{"a lower replica", nil, of(at(1, 9), at(3, 9)), drops(1, 0, 1, 1, 0, 0), api.ErrOrder},
		{"not in order, then beyond", nil, of(at(1, 9), at(3, 9)), drops(1, 1, 0, 1, 9, 0), api.ErrOrder},
		{"beyond, then not in order", nil, of(at(1, 9), at(3, 9)), drops(10, 1, 0, 1), api.ErrState},
		{"behind Have", nil, of(at(1, 9), at(3, 9)), drops(9, 0, 0, 1, 1, 1), api.ErrState},
		{"far behind Have", nil, of(at(1, 9), at(3, 9)), drops(1<<40, 0), api.ErrState},
		{"as far as From", of(at(1, 2)), of(at(1, 9), at(3, 9)), drops(1, 1, 1, 0), api.ErrState},
	} {
		d := draft{c.from, c.have, []string{"k"}, c.writes}
		s := d.bytes()
		if c.want == api.OK {
			checkRead(t, s, d.batch())
			continue
		}
		checkUnread(t, c.name, s, c.want, len(s))
		checkUnread(t, c.name+", and more", s+"more", api.ErrForm, len(s))
		d.texts = append(d.texts, "k")
		s = d.bytes()
		checkUnread(t, c.name+", and a key twice", s, api.ErrTwice, len(s))
		d.texts[1] = "another"
		s = d.bytes()
		checkUnread(t, c.name+", and a key of no write", s, api.ErrNone, len(s))
	}
}

// told is what 11.2 tells of a draft of few texts and Drops, spelled out: an error, and its place (-1: none).
func told(d draft) (api.Errno, int) {
	fields := d.fields()
	for _, f := range fields {
		if f.what == "tail" && d.ahead(f.write)+d.writes[f.write].later == 0 {
			return api.ErrRange, f.begins
		}
	}
	last := fields[len(fields)-1]
	e := toldOfKeys(d)
	if e == api.OK {
		e = toldOfBatch(d)
	}
	if e == api.OK {
		return e, -1
	}
	return e, last.begins + len(last.s)
}

// toldOfKeys is what 8.1 tells of a draft.
func toldOfKeys(d draft) api.Errno {
	for i, s := range d.texts {
		if slices.Contains(d.texts[:i], s) {
			return api.ErrTwice
		}
	}
	known := 0
	for _, l := range d.writes {
		if l.key > known {
			return api.ErrFalse
		}
		known = max(known, l.key+1)
	}
	if known < len(d.texts) {
		return api.ErrNone
	}
	return api.OK
}

// toldOfBatch is what 10.1 tells of a draft of right vectors and Drops.
func toldOfBatch(d draft) api.Errno {
	from, have := map[int]int{}, map[int]int{}
	for _, e := range d.have {
		have[e.Replica] = e.Time
	}
	for _, e := range d.from {
		from[e.Replica] = e.Time
		if have[e.Replica] < e.Time {
			return api.ErrFalse
		}
	}
	time := 0
	for i, l := range d.writes {
		time += l.later
		replica := d.have[l.replica].Replica
		if i > 0 && l.later == 0 && l.replica <= d.writes[i-1].replica {
			return api.ErrOrder
		}
		if time <= from[replica] || time > have[replica] {
			return api.ErrState
		}
	}
	return api.OK
}

// linesTo are all lists of up to so many Drops that are of two keys and two replicas at most, and up to two times later.
func linesTo(most, replicas, keys int) [][]line {
	last := [][]line{nil}
	all := last
	for range most {
		var next [][]line
		for _, l := range last {
			for later := range 3 {
				for replica := range replicas {
					for key := range keys {
						next = append(next, append(slices.Clone(l), line{kind: api.Drop, later: later, replica: replica, key: key}))
					}
				}
			}
		}
		all = append(all, next...)
		last = next
	}
	return all
}

// Promises 11.1, 11.2, P3: all short bodies that can be read, against what the promise says, spelled out.
func TestReadOfAllShortDrafts(t *testing.T) {
	seen := map[api.Errno]int{}
	vectors := [][]api.Entry{nil, of(at(3, 1)), of(at(3, 2)), of(at(3, 3), at(4, 2)), of(at(0, 2), at(3, 3))}
	for _, have := range vectors {
		for _, texts := range [][]string{nil, {"a"}, {"a", "b"}, {"", ""}} {
			lines := linesTo(3, len(have), len(texts))
			for _, from := range vectors {
				for _, writes := range lines {
					d := draft{from, have, texts, writes}
					e, place := told(d)
					seen[e]++
					if e != api.OK {
						checkUnread(t, "short", d.bytes(), e, place)
						continue
					}
					checkRead(t, d.bytes(), d.batch())
					checkWrite(t, d.batch(), d.bytes())
				}
			}
		}
	}
	for _, e := range []api.Errno{api.OK, api.ErrRange, api.ErrTwice, api.ErrFalse, api.ErrNone, api.ErrOrder, api.ErrState} {
		if seen[e] < 20 {
			t.Errorf("error %d was told but %d times", e, seen[e])
		}
	}
}

// checkOneWay asks that what is read is written so, and that of all else an error tells, at a place within.
func checkOneWay(t *testing.T, s string) bool {
	t.Helper()
	b, err := body.Read(s)
	if err == nil {
		checkWrite(t, b, s)
		return true
	}
	e, place := plain.Place(err)
	if !batch.Same(b, api.Batch{}) || e < api.ErrArg || e > api.ErrSpoilt || place < 0 || place > len(s) {
		t.Errorf("Read(%.200x) = %s, error %d at %d", s, show(b), e, place)
	}
	return false
}

// Promises 11.1, 11.2, P1: there is just one way to write a body: good ones with one byte that is another, is one more, or isn't there.
func TestThereIsJustOneWay(t *testing.T) {
	read := 0
	for _, b := range goods()[:40] {
		s := spelled(b)
		every := 1
		if len(s) > 100 { // of longer ones not each byte, and not to each value
			every = 1 + len(s)/30
		}
		for i := 0; i < len(s); i += every {
			others := []string{s[:i] + s[i+1:]}
			for c := 0; c < 256; c += every {
				others = append(others, s[:i]+string([]byte{byte(c)})+s[i+1:], s[:i]+string([]byte{byte(c)})+s[i:])
			}
			for _, other := range others {
				if len(other) <= 20000 && checkOneWay(t, other) {
					read++
				}
			}
		}
	}
	if read < 1000 {
		t.Errorf("but %d were read", read)
	}
}

// Promises 11.2, P1: all short bytes of a few values, alone and behind what begins a body.
func TestReadOfAllShortBytes(t *testing.T) {
	last := []string{""}
	for range 6 {
		var next []string
		for _, s := range last {
			for _, c := range []string{"\x00", "\x01", "\x02", "\x03", "\x07", "\x80", "\xff"} {
				next = append(next, s+c)
			}
		}
		for _, s := range next {
			checkOneWay(t, s)
			checkOneWay(t, "\x00\x01\x03\x00\x07\x01\x01k\x01"+s)
		}
		last = next
	}
}

// Promises 11.2, P1: bytes without a rule.
func TestReadOfBytesWithoutARule(t *testing.T) {
	n := uint64(1)
	for i := range 20000 {
		b := make([]byte, i%300)
		for j := range b {
			n = n*6364136223846793005 + 1442695040888963407
			b[j] = byte(n >> 33 >> (i % 8))
			if i%3 == 0 {
				b[j] %= 8
			}
		}
		checkOneWay(t, string(b))
		checkOneWay(t, "\x00\x02\x00\x00\x09\x05\x01\xff\x01\x09\x02\x00\x01k\x05"+string(b))
	}
}

// copied is a batch in memory of its own, with something else behind the lengths of its lists.
func copied(b api.Batch) api.Batch {
	return api.Batch{
		From:   append(append(of(), b.From...), at(7, 7))[:len(b.From)],
		Have:   append(append(of(), b.Have...), at(7, 7))[:len(b.Have)],
		Writes: append(append([]api.Write{}, b.Writes...), put(id(7, 7), "more", "v"))[:len(b.Writes)],
	}
}

// whole are a batch's lists, and what stands behind their lengths.
func whole(b api.Batch) [3]any {
	return [3]any{slices.Clone(b.From[:cap(b.From)]), slices.Clone(b.Have[:cap(b.Have)]), slices.Clone(b.Writes[:cap(b.Writes)])}
}

// Promise P4: nothing is written into lists that are handed in, nor behind them, nor is that asked for.
func TestNothingIsWrittenInto(t *testing.T) {
	for _, b := range goods() {
		a := copied(b)
		before := whole(a)
		checkWrite(t, a, spelled(b))
		if !reflect.DeepEqual(whole(a), before) {
			t.Errorf("%s was written into", show(b))
		}
	}
	for _, c := range badBatches() {
		a := copied(c.b)
		before := whole(a)
		checkUnwritten(t, c.name, a, c.want, c.place)
		if !reflect.DeepEqual(whole(a), before) {
			t.Errorf("%s: it was written into", c.name)
		}
	}
}

// spoil writes into a batch's lists, and behind them.
func spoil(b api.Batch) {
	_, _, _ = append(b.From, at(-1, -1)), append(b.Have, at(-2, -2)), append(b.Writes, api.Write{Kind: -3})
	clear(b.From)
	clear(b.Have)
	clear(b.Writes)
}

// Promise P4: what comes out is fresh: no two lists share memory, and none shares it with what was handed in, or with another answer.
func TestAnswersAreFresh(t *testing.T) {
	for _, b := range goods() {
		s := spelled(b)
		bytes := []byte(s)
		one, _ := body.Read(unsafe.String(unsafe.SliceData(bytes), len(bytes)))
		other, _ := body.Read(s)
		clear(bytes)
		if !batch.Same(one, b) {
			t.Errorf("%s is %s now", show(b), show(one))
		}
		spoil(other)
		checkRead(t, s, b)
		have := slices.Clone(one.Have)
		_ = append(one.From, at(-1, -1))
		clear(one.From)
		if !slices.Equal(one.Have, have) {
			t.Errorf("Have is %v now; want %v", one.Have, have)
		}
	}
	key := []byte("kv")
	s, _ := body.Write(bound(nil, of(at(3, 7)), put(id(7, 3), unsafe.String(&key[0], 1), unsafe.String(&key[1], 1))))
	clear(key)
	if want := "\x00\x01\x03\x00\x07\x01\x01k\x01\x01\x07\x00\x00\x01v"; s != want {
		t.Errorf("the body is %x now; want %x", s, want)
	}
}

// Promise P4: what a call answers hangs on its arguments alone: with an error ahead of it, too.
func TestNothingIsKept(t *testing.T) {
	b := mixed(20)
	s := spelled(b)
	for _, c := range badBatches() {
		checkUnwritten(t, c.name, c.b, c.want, c.place)
		checkWrite(t, b, s)
	}
	for i := range len(s) {
		body.Read(s[:i])
		checkRead(t, s, b)
	}
}
