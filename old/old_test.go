package old_test

import (
	"encoding/binary"
	"encoding/hex"
	"fmt"
	"hash/crc32"
	"math"
	"reflect"
	"slices"
	"strings"
	"testing"
	"unsafe"

	"packtrain/api"
	"packtrain/batch"
	"packtrain/body"
	"packtrain/frame"
	"packtrain/old"
	"packtrain/plain"
)

// of is a vector: replicas and times by turns.
func of(l ...int) []api.Entry {
	var all []api.Entry
	for i := 0; i < len(l); i += 2 {
		all = append(all, api.Entry{Replica: l[i], Time: l[i+1]})
	}
	return all
}

// many are so many entries of replicas from 0 on, each so far from the one ahead.
func many(n, step, time int) []api.Entry {
	var l []api.Entry
	for i := range n {
		l = append(l, api.Entry{Replica: i * step, Time: time})
	}
	return l
}

// id is an id.
func id(time, replica int) api.Id { return api.Id{Time: time, Replica: replica} }

// put, drop, add and insert are writes of each kind.
func put(i api.Id, key, value string) api.Write {
	return api.Write{Id: i, Kind: api.Put, Key: key, Value: value}
}
func drop(i api.Id, key string) api.Write { return api.Write{Id: i, Kind: api.Drop, Key: key} }
func add(i api.Id, key string, n int) api.Write {
	return api.Write{Id: i, Kind: api.Add, Key: key, N: n}
}
func insert(i api.Id, key string, n int, value string) api.Write {
	return api.Write{Id: i, Kind: api.Insert, Key: key, Value: value, N: n}
}

// bound is a batch from one vector to another, with some writes.
func bound(from, have []api.Entry, l ...api.Write) api.Batch {
	return api.Batch{From: from, Have: have, Writes: l}
}

// x is a text of so many bytes.
func x(n int) string { return strings.Repeat("x", n) }

// noise is a text of so many bytes without a rule, of no more values than are told.
func noise(seed, n, values int) string {
	b := make([]byte, n)
	state := uint64(seed)
	for i := range b {
		state = state*6364136223846793005 + 1442695040888963407
		b[i] = byte(int(state>>33) % values)
	}
	return string(b)
}

// great are so many writes, as great as they may be, no two of the same key.
func great(n int) api.Batch {
	b := bound(nil, of(200, 1<<40))
	for i := range n {
		b.Writes = append(b.Writes, insert(id(1<<40-n+1+i, 200), fmt.Sprint(10+i)+noise(i, 38, 256), 1000, noise(i+60, 300, 256)))
	}
	return b
}

// mixed are so many writes of three replicas, of all kinds and few keys.
func mixed(n int) api.Batch {
	b := bound(of(1, 2, 9, 1), of(0, 99, 1, 99, 5, 1<<40, 9, 1))
	for i := range n {
		w := api.Write{Id: id(3+i/2, []int{0, 1, 5}[i%2+i/2%2]), Kind: 1 + i%4, Key: []string{"a", "key", "", "\xff\x00", x(40)}[i%5]}
		switch w.Kind {
		case api.Put:
			w.Value = strings.Repeat("value", i)
		case api.Add:
			w.N = (i - 20) << (i % 45)
		case api.Insert:
			w.Value, w.N = noise(i, i, 256), i*16
		}
		b.Writes = append(b.Writes, w)
	}
	return b
}

// goods are batches with nothing wrong, which have a frame of each version.
func goods() []api.Batch {
	l := []api.Batch{
		{},
		bound(nil, of(3, 7)),
		bound(of(3, 7), of(3, 7)),
		bound(nil, of(3, 7), put(id(7, 3), "k", "v")),
		bound(of(3, 6), of(3, 7), put(id(7, 3), "k", "v")),
		bound(nil, of(3, 7), drop(id(7, 3), "")),
		bound(nil, of(3, 7), drop(id(7, 3), x(40))),
		bound(nil, of(3, 7), put(id(7, 3), "", "")),
		bound(nil, of(3, 7), put(id(7, 3), "k", strings.Repeat("ab", 150))),
		bound(nil, of(3, 9), drop(id(1, 3), "b"), drop(id(2, 3), "a"), drop(id(3, 3), "b"), drop(id(9, 3), "c")),
		bound(nil, of(0, 1<<40, 200, 1<<40), add(id(1, 0), "n", 0), add(id(1, 200), "n", -1), add(id(1<<40, 0), "m", 1<<50), add(id(1<<40, 200), "n", -1<<50)),
		bound(nil, of(1, 9), insert(id(1, 1), "l", 0, ""), insert(id(2, 1), "l", 1000, x(300)), put(id(9, 1), "l", "")),
		bound(many(16, 1, 1), many(16, 1, 300), put(id(2, 0), "", ""), drop(id(2, 15), ""), add(id(299, 7), "", 64), insert(id(300, 8), "", 128, x(128))),
		bound(nil, many(16, 13, 1<<40), drop(id(1, 195), "a"), drop(id(1<<40, 0), "b")),
		bound(of(5, 1, 9, 2), of(1, 1, 5, 1, 7, 1, 9, 3), drop(id(1, 1), "\xff\x80\x00"), drop(id(1, 7), "\n"), drop(id(3, 9), "\xff\x80\x00")),
	}
	for n := 1; n <= api.MaxWrites; n++ {
		l = append(l, mixed(n))
	}
	return append(l, great(50))
}

// number is a number as 1.1 has it.
func number(n uint64) string { return string(binary.AppendUvarint(nil, n)) }

// text is a text as 2.1 has it.
func text(s string) string { return number(uint64(len(s))) + s }

// seal is a text with its sum, as 3.2 has it.
func seal(s string) string {
	sum := crc32.Checksum([]byte(s), crc32.MakeTable(crc32.Castagnoli))
	return s + string(binary.LittleEndian.AppendUint32(nil, sum))
}

// framed is a frame of a version, with something inside.
func framed(version byte, inside string) string {
	return seal("PT" + string([]byte{version}) + inside)
}

// What stands in a frame of version 1.
const (
	entries = iota // how many entries
	writes         // how many writes
	replica
	time
	kind
	key
	tail // of a Put; behind it those of each other kind
)

// field is one thing in a frame of version 1.
type field struct {
	what int
	s    string
}

// tailOf is a write's tail as 9.2 has it.
func tailOf(w api.Write) string {
	switch w.Kind {
	case api.Put:
		return text(w.Value)
	case api.Add:
		return string(binary.AppendVarint(nil, int64(w.N)))
	case api.Insert:
		return number(uint64(w.N)) + text(w.Value)
	}
	return ""
}

// fields are what a batch's frame of version 1 has inside, as 13.1 has it, one behind the other.
func fields(b api.Batch) []field {
	var l []field
	for _, v := range [][]api.Entry{b.From, b.Have} {
		l = append(l, field{entries, number(uint64(len(v)))})
		for _, e := range v {
			l = append(l, field{replica, number(uint64(e.Replica))}, field{time, number(uint64(e.Time))})
		}
	}
	l = append(l, field{writes, number(uint64(len(b.Writes)))})
	for _, w := range b.Writes {
		l = append(l, field{kind, string([]byte{byte(w.Kind)})}, field{time, number(uint64(w.Id.Time))}, field{replica, number(uint64(w.Id.Replica))})
		l = append(l, field{key, text(w.Key)}, field{tail + w.Kind - 1, tailOf(w)})
	}
	return l
}

// join are fields as bytes.
func join(l []field) string {
	var all strings.Builder
	for _, f := range l {
		all.WriteString(f.s)
	}
	return all.String()
}

// insideOf is what a batch's frame of version 1 has inside; the batch may be wrong.
func insideOf(b api.Batch) string { return join(fields(b)) }

// firstOf is a batch's frame of version 1, spelled out; the batch may be wrong.
func firstOf(b api.Batch) string { return framed(1, insideOf(b)) }

// bodyOf is a batch's body, as 11.1 has it.
func bodyOf(t *testing.T, b api.Batch) string {
	t.Helper()
	s, err := body.Write(b)
	if err != nil {
		t.Fatalf("body.Write(%s): %v", show(b), err)
	}
	return s
}

// secondOf is a batch's frame of version 2, spelled out.
func secondOf(t *testing.T, b api.Batch) string {
	t.Helper()
	return framed(2, bodyOf(t, b))
}

// thirdOf is a batch's frame of version 3, as 12.1 has it.
func thirdOf(t *testing.T, b api.Batch) string {
	t.Helper()
	s, err := frame.Write(b)
	if err != nil {
		t.Fatalf("frame.Write(%s): %v", show(b), err)
	}
	return s
}

// bin is the text of hexadecimal digits.
func bin(t *testing.T, s string) string {
	t.Helper()
	b, err := hex.DecodeString(strings.ReplaceAll(s, " ", ""))
	if err != nil {
		t.Fatal(err)
	}
	return string(b)
}

// show is a thing as a text that isn't too long.
func show(thing any) string { return fmt.Sprintf("%.200s", fmt.Sprintf("%+v", thing)) }

// checkText asks for a text.
func checkText(t *testing.T, name, got string, err error, want string) {
	t.Helper()
	if got != want || err != nil {
		t.Errorf("%s = %.200x, %v; want %.200x", name, got, err, want)
	}
}

// checkNoText asks for an error, its place (-1: none), and no text with it.
func checkNoText(t *testing.T, name, got string, err error, want api.Errno, place int) {
	t.Helper()
	if e, p := plain.Place(err); got != "" || e != want || p != place {
		t.Errorf("%s = %.200x, error %d at %d; want error %d at %d", name, got, e, p, want, place)
	}
}

// checkBatch asks for a batch.
func checkBatch(t *testing.T, name string, got api.Batch, err error, want api.Batch) {
	t.Helper()
	if !batch.Same(got, want) || err != nil {
		t.Errorf("%s = %s, %v; want %s", name, show(got), err, show(want))
	}
}

// checkNoBatch asks for an error, its place (-1: none), and nothing of a batch with it.
func checkNoBatch(t *testing.T, name string, got api.Batch, err error, want api.Errno, place int) {
	t.Helper()
	if e, p := plain.Place(err); !batch.Same(got, api.Batch{}) || e != want || p != place {
		t.Errorf("%s = %s, error %d at %d; want error %d at %d", name, show(got), e, p, want, place)
	}
}

// checkFirst asks for a batch's frame of version 1.
func checkFirst(t *testing.T, b api.Batch, want string) {
	t.Helper()
	s, err := old.First(b)
	checkText(t, "First("+show(b)+")", s, err, want)
}

// checkSecond asks for a batch's frame of version 2.
func checkSecond(t *testing.T, b api.Batch, want string) {
	t.Helper()
	s, err := old.Second(b)
	checkText(t, "Second("+show(b)+")", s, err, want)
}

// checkUnwritten asks for an error of either version, and its place (-1: none).
func checkUnwritten(t *testing.T, name string, b api.Batch, want api.Errno, place int) {
	t.Helper()
	s, err := old.First(b)
	checkNoText(t, name+": First("+show(b)+")", s, err, want, place)
	s, err = old.Second(b)
	checkNoText(t, name+": Second("+show(b)+")", s, err, want, place)
}

// checkRead asks for the batch in a frame of version 1, or 2.
func checkRead(t *testing.T, s string, want api.Batch) {
	t.Helper()
	b, err := old.Read(s)
	checkBatch(t, fmt.Sprintf("Read(%.200x)", s), b, err, want)
	checkAny(t, s, want)
}

// checkAny asks for the batch in a frame of any version.
func checkAny(t *testing.T, s string, want api.Batch) {
	t.Helper()
	b, err := old.Any(s)
	checkBatch(t, fmt.Sprintf("Any(%.200x)", s), b, err, want)
}

// checkLift asks for a frame as one of version 3.
func checkLift(t *testing.T, s, want string) {
	t.Helper()
	up, err := old.Lift(s)
	checkText(t, fmt.Sprintf("Lift(%.200x)", s), up, err, want)
}

// checkUnread asks each function for an error of a frame, and its place (-1: none).
func checkUnread(t *testing.T, name, s string, want api.Errno, place int) {
	t.Helper()
	b, err := old.Read(s)
	checkNoBatch(t, fmt.Sprintf("%s: Read(%.200x)", name, s), b, err, want, place)
	checkNone(t, name, s, want, place)
}

// checkNone asks those of any version for an error of a frame, and its place (-1: none).
func checkNone(t *testing.T, name, s string, want api.Errno, place int) {
	t.Helper()
	b, err := old.Any(s)
	checkNoBatch(t, fmt.Sprintf("%s: Any(%.200x)", name, s), b, err, want, place)
	up, err := old.Lift(s)
	checkNoText(t, fmt.Sprintf("%s: Lift(%.200x)", name, s), up, err, want, place)
}

// Promises 13.1, 13.2, 13.3: frames byte by byte, both ways.
func TestKnownFrames(t *testing.T) {
	known := of(1, 5, 2, 9, 7, 1)
	one := bound(nil, of(3, 7), put(id(7, 3), "k", "v"))
	kinds := bound(of(1, 2), of(1, 300, 4, 6), put(id(3, 1), "k", "v"), drop(id(3, 4), "k"), add(id(6, 4), "k", -3), insert(id(300, 1), "", 10, "x"))
	for _, c := range []struct {
		b             api.Batch
		first, second string
	}{
		{api.Batch{}, "01 00 00 00 2a08511c", "02 00 00 00 00 4b140d51"},
		{bound([]api.Entry{}, []api.Entry{}, []api.Write{}...), "01 00 00 00 2a08511c", "02 00 00 00 00 4b140d51"},
		{one, "01 00 010307 01 01 07 03 016b 0176 5177f950", "02 00 01030007 01 016b 01 01 07 00 00 0176 4a67f617"},
		{bound(known, known), "01 03 0105 0209 0701 03 0105 0209 0701 00 2951c33a", "02 0201010509030001 0201010509030001 00 00 5fef6f98"},
		{kinds, "01 01 0102 02 01ac02 0406 04 01 03 01 016b 0176 02 03 04 016b 03 06 04 016b 05 04 ac02 01 00 0a 0178 363e3238",
			"02 01010002 020100ac02010006 02 016b 00 04 01 03 00 00 0176 02 00 01 00 03 03 01 00 05 04 a602 00 01 0a 0178 bc9a79a8"},
	} {
		first, second := bin(t, "5054"+c.first), bin(t, "5054"+c.second)
		checkFirst(t, c.b, first)
		checkSecond(t, c.b, second)
		for _, s := range []string{first, second} {
			checkRead(t, s, c.b)
			checkLift(t, s, thirdOf(t, c.b))
		}
	}
}

// Promises 13.1, 13.2, 13.3, P5 (whole 5): what is written is as the promises spell it out, and is read, and lifted, from whichever version.
func TestGoodsAreWrittenAndRead(t *testing.T) {
	for _, b := range goods() {
		first, second, third := firstOf(b), secondOf(t, b), thirdOf(t, b)
		checkFirst(t, b, first)
		checkSecond(t, b, second)
		checkRead(t, first, b)
		checkRead(t, second, b)
		checkAny(t, third, b)
		for _, s := range []string{first, second, third} {
			checkLift(t, s, third)
		}
	}
}

// Promises 13.1, 13.2, 13.3: of version 1 there is no bound on bytes, but of the others there is: the error has no place.
func TestTheGreatestFrames(t *testing.T) {
	for _, n := range []int{58, 60} {
		b := great(n)
		s := firstOf(b)
		checkFirst(t, b, s)
		checkRead(t, s, b)
		up, err := old.Second(b)
		checkNoText(t, "Second", up, err, api.ErrLimit, -1)
		up, err = old.Lift(s)
		checkNoText(t, "Lift", up, err, api.ErrLimit, -1)
	}
	most := great(58)
	last := &most.Writes[57]
	*last = put(last.Id, "", "")
	last.Value = x(20000 - len(bodyOf(t, most)))
	if n := len(bodyOf(t, most)); n != 20000 {
		t.Fatalf("the body has %d bytes", n)
	}
	checkSecond(t, most, secondOf(t, most))
	checkRead(t, secondOf(t, most), most)
	checkLift(t, firstOf(most), thirdOf(t, most))
	checkLift(t, secondOf(t, most), thirdOf(t, most))
	last.Value += "x"
	up, err := old.Second(most)
	checkNoText(t, "20,001 bytes: Second", up, err, api.ErrLimit, -1)
	up, err = old.Lift(firstOf(most))
	checkNoText(t, "20,001 bytes: Lift", up, err, api.ErrLimit, -1)
}

// badBatch is a batch with something wrong, and with which write (-1: with none).
type badBatch struct {
	name  string
	b     api.Batch
	want  api.Errno
	place int
}

// badBatches are batches with something wrong that each frame tells of in the end: it has a place for all of it.
func badBatches() []badBatch {
	good := put(id(7, 3), "k", "v")
	have := of(3, 9)
	return []badBatch{
		{"From is not in order", bound(of(3, 9, 1, 9), of(1, 9, 3, 9)), api.ErrOrder, -1},
		{"From has a replica twice", bound(of(3, 9, 3, 9), have), api.ErrOrder, -1},
		{"From has a time of 0", bound(of(3, 0), have), api.ErrRange, -1},
		{"Have is not in order", bound(nil, of(3, 9, 1, 9), good), api.ErrOrder, -1},
		{"Have has a time of 0", bound(nil, of(1, 0, 3, 9), good), api.ErrRange, -1},
		{"both are wrong", bound(of(3, 0), of(3, 9, 1, 9)), api.ErrRange, -1},
		{"Have doesn't cover From", bound(of(3, 8), of(3, 7), good), api.ErrFalse, -1},
		{"From has more replicas", bound(of(1, 1, 3, 6), have, good), api.ErrFalse, -1},
		{"twice", bound(nil, have, good, good), api.ErrOrder, 1},
		{"earlier", bound(nil, have, good, put(id(6, 3), "k", "v")), api.ErrOrder, 1},
		{"of a lower replica", bound(nil, of(1, 9, 3, 9), good, put(id(7, 1), "k", "v")), api.ErrOrder, 1},
		{"behind Have", bound(nil, have, good, put(id(10, 3), "k", "v")), api.ErrState, 1},
		{"of a replica that isn't there", bound(nil, have, put(id(7, 4), "k", "v")), api.ErrState, 0},
		{"as far as From", bound(of(3, 7), have, good), api.ErrState, 0},
		{"ahead of an order", bound(of(3, 7), have, good, good), api.ErrState, 0},
	}
}

// worseBatches are batches with something wrong that no frame has a place for, or tells of as it comes.
func worseBatches() []badBatch {
	good, have := put(id(7, 3), "k", "v"), of(3, 9)
	return []badBatch{
		{"From of more than 16", bound(many(17, 1, 1), many(17, 1, 1)), api.ErrLimit, -1},
		{"Have of more than 16", bound(nil, many(17, 1, 1)), api.ErrLimit, -1},
		{"a time above the most", bound(nil, of(3, 1<<40+1), good), api.ErrRange, -1},
		{"a time below 0", bound(nil, of(3, -1), good), api.ErrRange, -1},
		{"a replica above the most", bound(of(201, 1), of(201, 1)), api.ErrRange, -1},
		{"a replica below 0", bound(of(-1, 1), of(-1, 1)), api.ErrRange, -1},
		{"more than 60 writes", bound(nil, have, make([]api.Write, 61)...), api.ErrLimit, -1},
		{"very many writes", bound(nil, have, make([]api.Write, 1<<17)...), api.ErrLimit, -1},
		{"no kind", bound(nil, have, good, api.Write{}), api.ErrArg, 1},
		{"kind 5", bound(nil, have, api.Write{Kind: 5, Id: id(1, 3)}), api.ErrArg, 0},
		{"kind 257", bound(nil, have, api.Write{Kind: 257, Id: id(1, 3)}), api.ErrArg, 0},
		{"a time of 0", bound(nil, have, put(id(0, 3), "k", "v")), api.ErrRange, 0},
		{"a write below 0", bound(nil, have, good, put(id(8, -3), "k", "v")), api.ErrRange, 1},
		{"a key above the most", bound(nil, have, good, drop(id(8, 3), x(41))), api.ErrLimit, 1},
		{"a key above a span", bound(nil, have, good, drop(id(8, 3), x(2001))), api.ErrLimit, 1},
		{"a value above the most", bound(nil, have, put(id(7, 3), "k", x(301))), api.ErrLimit, 0},
		{"a value above a span", bound(nil, have, put(id(7, 3), "k", x(2001))), api.ErrLimit, 0},
		{"a Put with a number", bound(nil, have, good, api.Write{Id: id(8, 3), Kind: api.Put, N: 1}), api.ErrForm, 1},
		{"a Drop with a value", bound(nil, have, api.Write{Id: id(8, 3), Kind: api.Drop, Value: "v"}), api.ErrForm, 0},
		{"a number above the most", bound(nil, have, add(id(8, 3), "k", 1<<50+1)), api.ErrRange, 0},
		{"a place below 0", bound(nil, have, insert(id(8, 3), "k", -1, "v")), api.ErrRange, 0},
	}
}

// Promises 13.1, P1, P2, P3: what is wrong with a batch is told as the layers ahead tell it, and nothing is written.
func TestWritersTellWhatIsWrong(t *testing.T) {
	for _, c := range append(badBatches(), worseBatches()...) {
		checkUnwritten(t, c.name, c.b, c.want, c.place)
	}
}

// Promise 13.2, P3: what is wrong with a batch in a frame of version 1 is told bare, behind all that is wrong with how it is written.
func TestReadTellsOfWrongBatches(t *testing.T) {
	for _, c := range badBatches() {
		inside := insideOf(c.b)
		checkUnread(t, c.name, framed(1, inside), c.want, -1)
		checkUnread(t, c.name+", and more", framed(1, inside+"\x00"), api.ErrForm, -1)
		checkUnread(t, c.name+", and less", framed(1, inside[:len(inside)-1]), api.ErrMissing, -1)
	}
}

// vectors are all lists of up to two entries of replicas 0 and 1, and times from 0 to 2.
func vectors() [][]api.Entry {
	var ones []api.Entry
	for i := range 6 {
		ones = append(ones, api.Entry{Replica: i / 3, Time: i % 3})
	}
	l := [][]api.Entry{nil}
	for _, a := range ones {
		l = append(l, []api.Entry{a})
		for _, b := range ones {
			l = append(l, []api.Entry{a, b})
		}
	}
	return l
}

// drops are all lists of up to two Drops by replicas 0 and 1, of times 1 and 2.
func drops() [][]api.Write {
	ids := []api.Id{id(1, 0), id(1, 1), id(2, 0), id(2, 1)}
	l := [][]api.Write{nil}
	for i, a := range ids {
		l = append(l, []api.Write{drop(a, "k")})
		for j, b := range ids {
			l = append(l, []api.Write{drop(a, "k"), drop(b, []string{"k", "l"}[(i+j)%2])})
		}
	}
	return l
}

// Promises 13.1, 13.2, 13.3: all small batches, right or wrong, as batch.Right has them.
func TestAllSmallBatches(t *testing.T) {
	right := 0
	for _, from := range vectors() {
		for _, have := range vectors() {
			for _, l := range drops() {
				b := bound(from, have, l...)
				s := firstOf(b)
				want, place := plain.Place(batch.Right(b))
				if want != api.OK {
					checkUnwritten(t, "a small one", b, want, place)
					checkUnread(t, "a small one", s, want, -1)
					continue
				}
				right++
				second := secondOf(t, b)
				checkFirst(t, b, s)
				checkSecond(t, b, second)
				checkRead(t, s, b)
				checkRead(t, second, b)
				checkLift(t, s, thirdOf(t, b))
			}
		}
	}
	if right < 100 {
		t.Errorf("but %d are right", right)
	}
}

// bad is a field with something wrong.
type bad struct {
	name, s string
	want    api.Errno
}

// noNumbers are what stands where a number of no more than so much is to stand.
func noNumbers(most uint64) []bad {
	l := []bad{
		{"a nought on top", "\x80\x00", api.ErrForm},
		{"noughts on top", "\x81\x80\x00", api.ErrForm},
		{"more than 64 bits", strings.Repeat("\xff", 9) + "\x02", api.ErrLimit},
		{"more than ten bytes", strings.Repeat("\x80", 9) + "\x81\x01", api.ErrLimit},
	}
	for _, n := range []uint64{most + 1, most + 2, 2*most + 1, most + 1<<8, most + 1<<32, math.MaxInt64, 1 << 63, math.MaxUint64} {
		l = append(l, bad{fmt.Sprint(n), number(n), api.ErrRange})
	}
	return l
}

// noTexts are what stands where a text is to stand.
func noTexts() []bad {
	l := noNumbers(api.MaxSpan)
	for i := range l {
		if l[i].want == api.ErrRange {
			l[i].want = api.ErrLimit
		}
	}
	return append(l, bad{"a text of 2,001 bytes", text(x(2001)), api.ErrLimit})
}

// noValues are what stands where a value is to stand.
func noValues() []bad {
	l := noTexts()
	for _, n := range []int{301, 302, 2000} {
		l = append(l, bad{fmt.Sprint("a value of ", n), text(x(n)), api.ErrLimit})
	}
	return l
}

// noPlaces are what stands where a place and a value are to stand.
func noPlaces() []bad {
	l := noNumbers(api.MaxPlace)
	for _, n := range []uint64{0, 7, 1000} {
		for _, v := range noValues() {
			l = append(l, bad{fmt.Sprint(n, " and ", v.name), number(n) + v.s, v.want})
		}
	}
	return l
}

// wrongs are what is wrong, whatever stands behind it, where a field is to stand.
func wrongs(what int) []bad {
	var l []bad
	switch what {
	case entries:
		return noNumbers(api.MaxEntries)
	case writes:
		return noNumbers(api.MaxWrites)
	case replica:
		return noNumbers(api.MaxReplica)
	case time:
		return noNumbers(api.MaxTime)
	case kind:
		for c := range 256 {
			if c < 1 || c > 4 {
				l = append(l, bad{fmt.Sprint("kind ", c), string([]byte{byte(c)}), api.ErrArg})
			}
		}
	case key:
		return noTexts()
	case tail:
		return noValues()
	case tail + api.Add - 1:
		// The most is 2^50; one more is -2^50 - 1, and two more are 2^50 + 1.
		return noNumbers(2 * api.MaxNumber)
	case tail + api.Insert - 1:
		return noPlaces()
	}
	return l
}

// samples are batches that have all that there is in a frame of version 1.
func samples() []api.Batch {
	return []api.Batch{
		{},
		bound(of(1, 2), of(1, 300, 4, 6), put(id(3, 1), "k", "v"), drop(id(3, 4), "k"), add(id(6, 4), "k", -3), insert(id(300, 1), "", 10, "x")),
		bound(of(0, 1, 200, 1<<40), of(0, 1<<40, 200, 1<<40), insert(id(2, 0), x(40), 1000, x(300)), add(id(3, 0), "", 1<<50), put(id(4, 0), "ab", x(200)), drop(id(1<<40, 0), "k")),
	}
}

// Promise 13.2, P1, P2, P3: what is wrong with each field of a frame of version 1 is told ahead of whatever comes behind it, without a place.
func TestReadTellsOfWrongFields(t *testing.T) {
	asked := [tail + api.Insert]bool{}
	for _, b := range samples() {
		l := fields(b)
		for i, f := range l {
			ahead, behind := join(l[:i]), join(l[i+1:])
			for _, c := range wrongs(f.what) {
				asked[f.what] = true
				for _, more := range []string{"", behind, behind + "\x00", "\x00", "\x01", "\x05", "\x80\x00", strings.Repeat("\xff", 30), x(400)} {
					checkUnread(t, fmt.Sprint("field ", i, ": ", c.name), framed(1, ahead+c.s+more), c.want, -1)
				}
			}
		}
	}
	for what, is := range asked {
		if is != (what != tail+api.Drop-1) {
			t.Errorf("field %d was asked for: %v", what, is)
		}
	}
}

// Promise 13.2: no beginning of what is inside is whole, and what comes behind it is told.
func TestNoBeginningIsWhole(t *testing.T) {
	for _, b := range append(goods()[:20], samples()...) {
		inside := insideOf(b)
		for i := range len(inside) {
			checkUnread(t, "a beginning", framed(1, inside[:i]), api.ErrMissing, -1)
		}
		for _, more := range []string{"\x00", "\x01", "\x80", "\xff", "more", inside} {
			checkUnread(t, "more", framed(1, inside+more), api.ErrForm, -1)
		}
	}
	for _, c := range []struct{ name, s string }{
		{"a count without an end", "\x80"},
		{"as many entries as may be", "\x10"},
		{"as many writes as may be", "\x00\x00\x3c"},
		{"no replica", "\x01"},
		{"no time", "\x01\xc8\x01"},
		{"a time without an end", "\x01\x01\x80"},
		{"no time of a write", "\x00\x00\x01\x01"},
		{"no replica of a write", "\x00\x00\x01\x02\x01"},
		{"no key", "\x00\x00\x01\x03\x01\xc8\x01"},
		{"a key without an end", "\x00\x00\x01\x04\x01\x00" + number(2000) + x(1999)},
		{"no value", "\x00\x00\x01\x01\x01\x00\x00"},
		{"a value without an end", "\x00\x00\x01\x01\x01\x00\x00" + number(2000) + x(1999)},
		{"no number", "\x00\x00\x01\x03\x01\x00\x00"},
		{"no place", "\x00\x00\x01\x04\x01\x00\x00"},
		{"no value behind a place", "\x00\x00\x01\x04\x01\x00\x00\x01"},
		{"another write", "\x00\x00\x02\x02\x01\x00\x00"},
	} {
		checkUnread(t, c.name, framed(1, c.s), api.ErrMissing, -1)
	}
}

// Promise 13.2, P3: what Fill tells of a write's id and key is told behind what can't be read of its tail, and ahead of the next write.
func TestReadTellsOfWrongWritesAsTheyCome(t *testing.T) {
	const zero, least = "\x00", "\x01"
	for _, c := range []struct {
		name, times, key, tail string
		want                   api.Errno
	}{
		{"a time of 0", zero, text("k"), text("v"), api.ErrRange},
		{"a time of 0, and a key of 41", zero, text(x(41)), text("v"), api.ErrRange},
		{"a time of 0, and a value of 301", zero, text("k"), text(x(301)), api.ErrRange},
		{"a time of 0, and a key above a span", zero, number(2001), text("v"), api.ErrLimit},
		{"a time of 0, and a key that is no text", zero, "\x80\x00", text("v"), api.ErrForm},
		{"a time of 0, and a value above a span", zero, text("k"), number(2001), api.ErrLimit},
		{"a time of 0, and a value that is no text", zero, text("k"), "\x80\x00", api.ErrForm},
		{"a key of 41", least, text(x(41)), text("v"), api.ErrLimit},
		{"a key of 2,000", least, text(x(2000)), text("v"), api.ErrLimit},
		{"a key of 2,000, and a value that is no text", least, text(x(2000)), "\x80\x00", api.ErrForm},
		{"a key of 2,001, and a value that is no text", least, text(x(2001)), "\x80\x00", api.ErrLimit},
	} {
		head := "\x01\x03\x00\x01\x03\x09\x02\x01" // From has a time of 0
		one := c.times + "\x03" + c.key + c.tail
		for _, next := range []string{"", "\x00", "\x05", "\x01\x02\x03" + text("k") + text("v"), "\x01\x80\x00", x(400)} {
			checkUnread(t, c.name, framed(1, head+one+next), c.want, -1)
		}
	}
	// Alone the same ones end with what is missing.
	checkUnread(t, "a time of 0, and no value", framed(1, "\x00\x00\x01\x01\x00\x00\x00"), api.ErrMissing, -1)
	checkUnread(t, "a key of 41, and no value", framed(1, "\x00\x00\x01\x01\x01\x00"+text(x(41))), api.ErrMissing, -1)
	checkUnread(t, "a Drop of time 0", framed(1, "\x00\x00\x01\x02\x00\x00\x00"), api.ErrRange, -1)
	checkUnread(t, "a Drop of time 0, and more", framed(1, "\x00\x00\x01\x02\x00\x00\x00\x00"), api.ErrRange, -1)
}

// Promise 13.2, P3: of version 2 what is wrong with the body is told with its place in the body.
func TestReadTellsOfWrongBodies(t *testing.T) {
	for _, c := range []struct {
		name, s string
		want    api.Errno
		place   int
	}{
		{"no Have", "00", api.ErrMissing, 1},
		{"a wrong From", "11", api.ErrRange, 0},
		{"61 keys", "00 00 3d", api.ErrRange, 2},
		{"no writes", "00 01030007 01 016b", api.ErrMissing, 8},
		{"kind 5", "00 01030007 01 016b 01 05 07 00 00 0176", api.ErrArg, 9},
		{"a replica that isn't there", "00 01030007 01 016b 01 01 07 01 00 0176", api.ErrRange, 11},
		{"a value without an end", "00 01030007 01 016b 01 01 07 00 00 0276", api.ErrMissing, 13},
		{"one more byte", "00 01030007 01 016b 01 01 07 00 00 0176 00", api.ErrForm, 15},
		{"a key twice", "00 01030007 02 016b 016b 01 01 07 00 00 0176", api.ErrTwice, 17},
		{"a key of no write", "00 01030007 01 016b 00", api.ErrNone, 9},
		{"behind Have", "00 01030007 01 016b 01 01 08 00 00 0176", api.ErrState, 15},
		{"Have doesn't cover From", "01030008 01030007 00 00", api.ErrFalse, 10},
		{"of version 1", "00 010307 01 01 07 03 016b 0176", api.ErrMissing, 12},
		{"of version 3", "00 04 00000000", api.ErrMissing, 1},
	} {
		checkUnread(t, c.name, framed(2, bin(t, c.s)), c.want, c.place)
	}
	for _, b := range append(goods()[:20], mixed(7)) {
		all := bodyOf(t, b)
		for i := 1; i < len(all); i++ {
			_, err := body.Read(all[:i])
			want, place := plain.Place(err)
			checkUnread(t, "a beginning of a body", framed(2, all[:i]), want, place)
		}
		checkUnread(t, "more", framed(2, all+"\x00"), api.ErrForm, len(all))
	}
	for _, c := range []string{"\x00", "\x11", "\x80", "x"} {
		checkUnread(t, "20,001 bytes", framed(2, strings.Repeat(c, 20001)), api.ErrLimit, -1)
		_, err := body.Read(strings.Repeat(c, 20000))
		want, place := plain.Place(err)
		checkUnread(t, "20,000 bytes", framed(2, strings.Repeat(c, 20000)), want, place)
	}
}

// Promises 13.2, 13.3, P3: frames of version 3 are read by Any and Lift alone, as frame reads them, with its errors.
func TestTheThirdVersion(t *testing.T) {
	for _, b := range append(goods()[:20], mixed(7)) {
		s := thirdOf(t, b)
		none, err := old.Read(s)
		checkNoBatch(t, "Read("+show(b)+")", none, err, api.ErrState, -1)
		checkAny(t, s, b)
		checkLift(t, s, s)
	}
	for _, c := range []struct {
		name, inside string
		want         api.Errno
		place        int
	}{
		{"another way", "02 04 00000000", api.ErrForm, -1},
		{"no number", "00", api.ErrMissing, -1},
		{"another number", "00 05 00000000", api.ErrRange, -1},
		{"no body", "00 00", api.ErrMissing, 0},
		{"a wrong body", "00 03 00003d", api.ErrRange, 2},
		{"Have doesn't cover From", "00 0a 01030008 01030007 00 00", api.ErrFalse, 10},
		{"squeezed wrongly", "01 04 00", api.ErrForm, -1},
		{"squeezed in more bytes", "01 04 08 00000000", api.ErrFalse, -1},
		{"of version 1", "00 010307 01 01 07 03 016b 0176", api.ErrRange, -1},
		{"of version 2", "00 01030007 01 016b 01 01 07 00 00 0176", api.ErrRange, -1},
	} {
		s := framed(3, bin(t, c.inside))
		none, err := old.Read(s)
		checkNoBatch(t, c.name+": Read", none, err, api.ErrState, -1)
		checkNone(t, c.name, s, c.want, c.place)
	}
}

// Promises 13.2, 13.3, P3: the errors of frame's Version come ahead of all others.
func TestVersionsErrorsComeFirst(t *testing.T) {
	good := insideOf(samples()[1])
	for n := range 8 {
		for _, s := range []string{noise(n, n, 256), strings.Repeat("\x00", n), firstOf(samples()[1])[:n], "PT\x01\x00\x00\x00\x00"[:n]} {
			checkUnread(t, "few bytes", s, api.ErrMissing, -1)
		}
	}
	for version := range 256 {
		for _, inside := range []string{"\x00", "\x11", good, good + "\x00", bodyOf(t, samples()[1])} {
			s := string([]byte{byte(version)}) + inside
			for _, name := range []string{"XT", "PX", "pt", "\x00\x00", "TP"} {
				checkUnread(t, "another name", seal(name+s), api.ErrName, -1)
				checkUnread(t, "another name, spoilt", name+s+"sums", api.ErrName, -1)
			}
			if version < 1 || version > 3 {
				checkUnread(t, "another version", seal("PT"+s), api.ErrNone, -1)
				checkUnread(t, "another version, spoilt", "PT"+s+"sums", api.ErrNone, -1)
				continue
			}
			sealed := seal("PT" + s)
			for _, spoilt := range []string{"PT" + s + "sums", sealed + "\x00", "PT" + s + seal(s)[len(s):], "PT" + s + sealed[len(sealed)-4:][1:] + "\x00"} {
				checkUnread(t, "spoilt", spoilt, api.ErrSpoilt, -1)
			}
		}
	}
}

// turn is a text with bits turned from one on, by a mask.
func turn(s string, bit int, mask uint32) string {
	b := []byte(s)
	for i := range 32 {
		if place := bit + i; mask>>i&1 == 1 && place/8 < len(b) {
			b[place/8] ^= 1 << (place % 8)
		}
	}
	return string(b)
}

// checkTurned asks that of a frame that was turned something is told, and what.
func checkTurned(t *testing.T, s, was string) {
	t.Helper()
	want := api.ErrSpoilt
	if s[:2] != was[:2] {
		want = api.ErrName
	} else if s[2] < 1 || s[2] > 3 {
		want = api.ErrNone
	}
	if s != was {
		checkUnread(t, "turned", s, want, -1)
	}
}

// Promises 13.1, 13.2, 13.3 (whole 2): bits that are turned close together are seen, of either version.
func TestTurnedBitsAreSeen(t *testing.T) {
	for _, b := range samples()[:2] {
		for _, write := range []func(api.Batch) (string, error){old.First, old.Second} {
			s, err := write(b)
			if err != nil {
				t.Fatal(err)
			}
			for bit := range len(s) * 8 {
				checkTurned(t, turn(s, bit, 1), s)
				for i := 1; i < 32; i++ {
					checkTurned(t, turn(s, bit, 1|1<<i), s)
				}
				checkTurned(t, turn(s, bit, binary.LittleEndian.Uint32([]byte(noise(bit, 4, 256)))), s)
			}
		}
	}
}

// checkOneWay asks that what is read is written so, that all agree, and that of all else an error tells; whether it was read.
func checkOneWay(t *testing.T, version byte, inside string) bool {
	t.Helper()
	s := framed(version, inside)
	b, err := old.Read(s)
	e, place := plain.Place(err)
	if err != nil {
		if e < api.ErrArg || e > api.ErrSpoilt || version == 1 && place != -1 {
			t.Errorf("Read(%.200x): error %d at %d", s, e, place)
		}
		checkUnread(t, "one way", s, e, place)
		return false
	}
	if version == 1 {
		checkFirst(t, b, s)
	} else {
		checkSecond(t, b, s)
	}
	checkRead(t, s, b)
	checkLift(t, s, thirdOf(t, b))
	return true
}

// Promises 13.1, 13.2, P1 (whole 1): frames with one byte inside that is another, is one more, or isn't there, sealed anew: there is just one way to write what is read.
func TestThereIsJustOneWay(t *testing.T) {
	read := [3]int{}
	for _, b := range append(goods()[:12], samples()...) {
		for version, inside := range map[byte]string{1: insideOf(b), 2: bodyOf(t, b)} {
			every := 1 + len(inside)/20
			for i := 0; i < len(inside); i += every {
				others := []string{inside[:i] + inside[i+1:]}
				for c := 0; c < 256; c += every {
					one := string([]byte{byte(c)})
					others = append(others, inside[:i]+one+inside[i+1:], inside[:i]+one+inside[i:])
				}
				for _, other := range others {
					if checkOneWay(t, version, other) {
						read[version]++
					}
				}
			}
		}
	}
	if read[1] < 500 || read[2] < 500 {
		t.Errorf("but %v were read", read)
	}
}

// Promises 13.2, 13.3, P1: bytes without a rule, and very many.
func TestBytesWithoutARule(t *testing.T) {
	for i := range 3000 {
		s := noise(i, 1+i%200, 1<<(1+i%8))
		checkOneWay(t, 1, s)
		checkOneWay(t, 2, s)
		checkOneWay(t, 1, "\x00\x01\x03\x09"+s)
		checkOneWay(t, 1, "\x00\x01\x03\x09\x01\x02"+s)
	}
	for _, c := range []string{"\x00", "\x01", "\x02", "\x3c", "\x80", "\xff"} {
		checkOneWay(t, 1, strings.Repeat(c, 1<<18))
		checkOneWay(t, 2, strings.Repeat(c, 1<<18))
	}
	checkUnread(t, "very many bytes of 0", framed(1, strings.Repeat("\x00", 1<<18)), api.ErrForm, -1)
}

// copied is a batch in memory of its own, with something else behind the lengths of its lists.
func copied(b api.Batch) api.Batch {
	more := api.Entry{Replica: 7, Time: 7}
	return api.Batch{
		From:   append(slices.Clone(b.From), more)[:len(b.From)],
		Have:   append(slices.Clone(b.Have), more)[:len(b.Have)],
		Writes: append(slices.Clone(b.Writes), put(id(7, 3), "more", "v"))[:len(b.Writes)],
	}
}

// behind are a batch's lists, with what stands behind their lengths.
func behind(b api.Batch) [3]any {
	return [3]any{slices.Clone(b.From[:cap(b.From)]), slices.Clone(b.Have[:cap(b.Have)]), slices.Clone(b.Writes[:cap(b.Writes)])}
}

// Promise P4: nothing is written into lists that are handed in, nor behind them, nor is that asked for.
func TestNothingIsWrittenInto(t *testing.T) {
	for _, b := range goods() {
		a := copied(b)
		before := behind(a)
		checkFirst(t, a, firstOf(b))
		checkSecond(t, a, secondOf(t, b))
		if !reflect.DeepEqual(behind(a), before) {
			t.Errorf("%s was written into", show(b))
		}
	}
	for _, c := range append(badBatches(), worseBatches()...) {
		a := copied(c.b)
		before := behind(a)
		checkUnwritten(t, c.name, a, c.want, c.place)
		if !reflect.DeepEqual(behind(a), before) {
			t.Errorf("%s: it was written into", c.name)
		}
	}
}

// Promise P4: what comes out is fresh: it shares no memory with what was handed in, nor with another answer.
func TestAnswersAreFresh(t *testing.T) {
	for _, b := range goods() {
		for _, s := range []string{firstOf(b), secondOf(t, b), thirdOf(t, b)} {
			bytes := []byte(s)
			shared := unsafe.String(unsafe.SliceData(bytes), len(bytes))
			one, _ := old.Any(shared)
			up, _ := old.Lift(shared)
			clear(bytes)
			if !batch.Same(one, b) || up != thirdOf(t, b) {
				t.Errorf("%s is %s now, lifted %.200x", show(b), show(one), up)
			}
			other, _ := old.Any(s)
			clear(other.From)
			clear(other.Have)
			clear(other.Writes)
			if !batch.Same(one, b) {
				t.Errorf("%s is %s now", show(b), show(one))
			}
			checkAny(t, s, b)
		}
	}
	b := bound(nil, of(3, 7), put(id(7, 3), "k", "v"))
	letters := []byte("kv")
	a := bound(nil, of(3, 7), put(id(7, 3), unsafe.String(&letters[0], 1), unsafe.String(&letters[1], 1)))
	first, _ := old.First(a)
	second, _ := old.Second(a)
	clear(letters)
	if first != firstOf(b) || second != secondOf(t, b) {
		t.Errorf("the frames are %x and %x now", first, second)
	}
}

// Promise P4: From and Have of one answer share no memory.
func TestListsOfOneAnswerAreApart(t *testing.T) {
	b := bound(many(9, 2, 3), many(9, 2, 3))
	for _, s := range []string{firstOf(b), secondOf(t, b)} {
		one, err := old.Read(s)
		if err != nil {
			t.Fatal(err)
		}
		clear(one.From[:cap(one.From)])
		if !slices.Equal(one.Have, b.Have) {
			t.Errorf("Have is %s now", show(one.Have))
		}
	}
}

// Promise P4: what a call answers hangs on its arguments alone: with an error ahead of it, too.
func TestNothingIsKept(t *testing.T) {
	b := mixed(20)
	first, second := firstOf(b), secondOf(t, b)
	for _, c := range append(badBatches(), worseBatches()...) {
		checkUnwritten(t, c.name, c.b, c.want, c.place)
		checkFirst(t, b, first)
		checkSecond(t, b, second)
	}
	inside := insideOf(b)
	for i := range len(inside) {
		checkUnread(t, "a beginning", framed(1, inside[:i]), api.ErrMissing, -1)
		checkRead(t, first, b)
		checkRead(t, second, b)
		checkLift(t, first, thirdOf(t, b))
	}
}
