package recv_test

import (
	"encoding/binary"
	"encoding/hex"
	"fmt"
	"hash/crc32"
	"math"
	"slices"
	"strings"
	"testing"
	"unsafe"

	"packtrain/api"
	"packtrain/plain"
	"packtrain/recv"
)

// all is a mask by which everything lasts.
const all = math.MaxUint64

// castagnoli is the sum of 3.1.
func castagnoli(s string) uint32 {
	return crc32.Checksum([]byte(s), crc32.MakeTable(crc32.Castagnoli))
}

// low are the four bytes of a number, the lowest one first.
func low(n uint32) string { return string(binary.LittleEndian.AppendUint32(nil, n)) }

// number is a number as 1.1 has it.
func number(n int) string { return string(binary.AppendUvarint(nil, uint64(n))) }

// seal is a text with its sum, as 3.2 has it.
func seal(s string) string { return s + low(castagnoli(s)) }

// piece is a piece as 16.2 has it, of any name.
func piece(name uint32, total, at int, data string) string {
	return seal("C" + low(name) + number(total) + number(at) + data)
}

// part is a piece of a text, under the text's name.
func part(s string, at, end int) string {
	return piece(castagnoli(s), len(s), at, s[at:end])
}

// parts are all pieces of a text, of so many bytes.
func parts(s string, size int) []string {
	var l []string
	for at := 0; at < len(s); at += size {
		l = append(l, part(s, at, min(at+size, len(s))))
	}
	return l
}

// record is a record as 18.2 has it.
func record(ahead int, name uint32, total, safe int) string {
	return seal("R" + number(ahead) + low(name) + number(total) + number(safe))
}

// full is what a sector has that a text was written to.
func full(s string) string { return s + strings.Repeat("\x00", 32-len(s)) }

// x is a text of so many bytes.
func x(n int) string { return strings.Repeat("x", n) }

// noise are so many bytes without a rule.
func noise(seed, n int) string {
	b := make([]byte, n)
	c := chance(seed)
	for i := range b {
		b[i] = byte(c.next(256))
	}
	return string(b)
}

// chance is a row of numbers without a rule.
type chance uint64

// next is one of so many numbers from 0 on.
func (c *chance) next(n int) int {
	*c = *c*6364136223846793005 + 1442695040888963407
	return int(uint64(*c) >> 33 % uint64(n))
}

// mask is any of 64 bits.
func (c *chance) mask() uint64 {
	return uint64(c.next(1<<22))<<42 | uint64(c.next(1<<21))<<21 | uint64(c.next(1<<21))
}

// filled is a receiver that took all of these in.
func filled(t *testing.T, l ...string) *recv.Receiver {
	t.Helper()
	r := recv.New()
	take(t, r, l...)
	return r
}

// take lets a receiver take in what it may.
func take(t *testing.T, r *recv.Receiver, l ...string) {
	t.Helper()
	for _, s := range l {
		if err := r.Take(s); err != nil {
			t.Fatalf("Take(%x) = %v; want no error", s, err)
		}
	}
}

// settle lets all that is there from the beginning on last, as Sync of 19.2 does.
func settle(r *recv.Receiver) {
	r.Save()
	r.Flush()
	r.Mark()
	r.Flush()
}

// checkCounts asks for Offer and Safe.
func checkCounts(t *testing.T, name string, r *recv.Receiver, offer, safe int) {
	t.Helper()
	if o, s := r.Offer(), r.Safe(); o != offer || s != safe {
		t.Errorf("%s: Offer() = %d, Safe() = %d; want %d, %d", name, o, s, offer, safe)
	}
}

// checkText asks for the whole text.
func checkText(t *testing.T, name string, r *recv.Receiver, want string) {
	t.Helper()
	if s, err := r.Text(); s != want || err != nil {
		t.Errorf("%s: Text() = %.100q, %v; want %.100q", name, s, err, want)
	}
}

// checkNoText asks for an error, and no text with it.
func checkNoText(t *testing.T, name string, r *recv.Receiver, want api.Errno) {
	t.Helper()
	s, err := r.Text()
	if e, place := plain.Place(err); e != want || place != -1 || s != "" {
		t.Errorf("%s: Text() = %.100q, error %d at %d; want error %d", name, s, e, place, want)
	}
}

// checkCrash asks for how many bytes are there behind a crash, and that all of these last.
func checkCrash(t *testing.T, name string, r *recv.Receiver, mask uint64, want int) {
	t.Helper()
	if n := r.Crash(mask); n != want {
		t.Errorf("%s: Crash(%x) = %d; want %d", name, mask, n, want)
	}
	checkCounts(t, name+", crashed", r, want, want)
	checkDirty(t, name+", crashed", r)
}

// checkDirty asks for the sectors that were written since they were synced.
func checkDirty(t *testing.T, name string, r *recv.Receiver, want ...int) {
	t.Helper()
	if got := r.Disk().Dirty(); !slices.Equal(got, want) {
		t.Errorf("%s: sectors %v are dirty; want %v", name, got, want)
	}
}

// sectors are what all sectors have.
func sectors(r *recv.Receiver) []string {
	var l []string
	for at := range 140 {
		s, _ := r.Disk().Read(at)
		l = append(l, s)
	}
	return l
}

// checkSectors asks for what all sectors have: texts and noughts behind them; where none is told, noughts alone.
func checkSectors(t *testing.T, name string, r *recv.Receiver, want map[int]string) {
	t.Helper()
	for at, s := range sectors(r) {
		if s != full(want[at]) {
			t.Errorf("%s: sector %d has %x; want %x", name, at, s, full(want[at]))
		}
	}
}

// look is all that can be asked of a receiver.
func look(r *recv.Receiver) string {
	text, err := r.Text()
	return fmt.Sprint(r.Offer(), r.Safe(), r.Disk().Dirty(), err) + text + strings.Join(sectors(r), "")
}

// checkNotTake asks for an error, and that all is as it was.
func checkNotTake(t *testing.T, name string, r *recv.Receiver, s string, want api.Errno) {
	t.Helper()
	before := look(r)
	if e, place := plain.Place(r.Take(s)); e != want || place != -1 {
		t.Errorf("%s: Take(%x) = error %d at %d; want error %d", name, s, e, place, want)
	}
	if now := look(r); now != before {
		t.Errorf("%s: it was %q, and is %q now", name, before, now)
	}
}

// Promises 18.1, 18.2: to a new one nothing came, its disk has MaxSectors, and nothing is to be saved or marked.
func TestNew(t *testing.T) {
	r := recv.New()
	check := func(name string) {
		t.Helper()
		checkCounts(t, name, r, 0, 0)
		checkNoText(t, name, r, api.ErrNone)
		checkSectors(t, name, r, nil)
		checkDirty(t, name, r)
	}
	check("new")
	if _, err := r.Disk().Read(140); err == nil {
		t.Errorf("there are more sectors than MaxSectors")
	}
	for name, do := range map[string]func(){"Save": r.Save, "Flush": r.Flush, "Mark": r.Mark, "all": func() { settle(r) }} {
		do()
		check(name)
	}
	for _, mask := range []uint64{0, 1, 6, all} {
		checkCrash(t, "new", r, mask, 0)
		check("crashed")
	}
	take(t, r, part("hello", 0, 5))
	checkText(t, "new, all asked", r, "hello")
	r.Mark()
	checkSectors(t, "the first record", r, map[int]string{0: record(0, castagnoli("hello"), 5, 0)})
}

// Promise 18.1: pieces that come one behind the other, twice, or ahead of others.
func TestKnownPieces(t *testing.T) {
	const s = "hello world"
	l := parts(s, 4)
	r := recv.New()
	for _, c := range []struct {
		name  string
		piece int
		offer int
	}{
		{"the last one", 2, 0}, {"the last one again", 2, 0}, {"the first one", 0, 4}, {"the first one again", 0, 4},
	} {
		take(t, r, l[c.piece])
		checkCounts(t, c.name, r, c.offer, 0)
		checkNoText(t, c.name, r, api.ErrMissing)
	}
	take(t, r, l[1])
	checkCounts(t, "the one between", r, 11, 0)
	checkText(t, "the one between", r, s)
	take(t, r, l...)
	checkCounts(t, "all again", r, 11, 0)
	checkText(t, "all again", r, s)
	checkDirty(t, "nothing is saved", r)
}

// orders are all orders of so many numbers.
func orders(n int) [][]int {
	if n == 0 {
		return [][]int{nil}
	}
	var out [][]int
	for _, l := range orders(n - 1) {
		for at := range n {
			out = append(out, slices.Insert(slices.Clone(l), at, n-1))
		}
	}
	return out
}

// Promise 18.1: pieces in all orders: how far they go without a gap.
func TestAllOrders(t *testing.T) {
	s := noise(1, 29)
	l := parts(s, 5)
	for _, order := range orders(len(l)) {
		r, came := recv.New(), make([]bool, len(l)+1)
		without := api.ErrNone
		for _, i := range order {
			checkNoText(t, fmt.Sprint(order), r, without)
			take(t, r, l[i])
			came[i], without = true, api.ErrMissing
			checkCounts(t, fmt.Sprint(order), r, min(5*slices.Index(came, false), 29), 0)
		}
		checkText(t, fmt.Sprint(order), r, s)
	}
}

// Promise 18.1: things of one byte, of a few, and of as many as may be, in pieces of all lengths.
func TestAllLengths(t *testing.T) {
	for _, n := range []int{1, 2, 31, 32, 33, 255, 256, 257, 4095, 4096} {
		s := noise(n, n)
		for _, size := range []int{1, 2, 31, 32, 33, 255, 256} {
			r := filled(t, parts(s, size)...)
			checkCounts(t, fmt.Sprint(n, " by ", size), r, n, 0)
			checkText(t, fmt.Sprint(n, " by ", size), r, s)
		}
	}
	checkText(t, "a thing of a nought", filled(t, part("\x00", 0, 1)), "\x00")
}

// Promise 18.1: a byte that is there stays as it is, though a piece tells another one; those around it that aren't there are there then.
func TestWhatIsThereStays(t *testing.T) {
	type come struct {
		at   int
		data string
	}
	for _, c := range []struct {
		name string
		l    []come
		want string
	}{
		{"all over again", []come{{0, "abcdef"}, {0, "uvwxyz"}}, "abcdef"},
		{"over the beginning", []come{{0, "abc"}, {0, "uvwxyz"}}, "abcxyz"},
		{"over the end", []come{{3, "def"}, {0, "uvwxyz"}}, "uvwdef"},
		{"around", []come{{2, "cd"}, {0, "uvwxyz"}}, "uvcdyz"},
		{"over both ends", []come{{0, "ab"}, {4, "ef"}, {0, "uvwxyz"}}, "abwxef"},
		{"partly", []come{{0, "abc"}, {2, "wxyz"}}, "abcxyz"},
		{"partly, ahead", []come{{2, "cdef"}, {0, "uvwx"}}, "uvcdef"},
		{"one byte after another", []come{{1, "b"}, {0, "uv"}, {5, "f"}, {3, "xyz"}, {2, "c"}, {0, "123456"}}, "ubcxyf"},
		{"noughts", []come{{0, "\x00\x00\x00"}, {0, "uvwxyz"}}, "\x00\x00\x00xyz"},
		{"over noughts that are there, and that aren't", []come{{1, "\x00"}, {0, "uvwxyz"}}, "u\x00wxyz"},
	} {
		r := recv.New()
		for _, p := range c.l {
			take(t, r, piece(castagnoli(c.want), 6, p.at, p.data))
		}
		checkText(t, c.name, r, c.want)
		r.Save()
		checkSectors(t, c.name, r, map[int]string{2: c.want})
	}
}

// bad are bytes that are no piece.
type bad struct {
	name string
	s    string
	want api.Errno
}

// bads are bytes that are no piece, and what is wrong with them; those that have a name have this one.
func bads(name uint32) []bad {
	turned := []byte(piece(name, 5, 0, "hello"))
	turned[3] ^= 1
	return []bad{
		{"nothing", "", api.ErrMissing},
		{"three bytes", "abc", api.ErrMissing},
		{"a sum that isn't", "abcd", api.ErrSpoilt},
		{"a bit that is turned", string(turned), api.ErrSpoilt},
		{"another beginning", seal("c" + low(name) + "\x05\x00hello"), api.ErrName},
		{"a record", record(0, name, 5, 0), api.ErrName},
		{"no name", seal("Cabc"), api.ErrMissing},
		{"no Total", seal("C" + low(name)), api.ErrMissing},
		{"a Total that has a nought ahead", seal("C" + low(name) + "\x85\x00\x00hello"), api.ErrForm},
		{"a Total that is too great", piece(name, 4097, 0, "hello"), api.ErrRange},
		{"a Total of 0", piece(name, 0, 0, "hello"), api.ErrRange},
		{"no At", seal("C" + low(name) + "\x05"), api.ErrMissing},
		{"an At behind all", piece(name, 5, 6, "hello"), api.ErrRange},
		{"no data", piece(name, 5, 0, ""), api.ErrLimit},
		{"data at the end", piece(name, 5, 5, "h"), api.ErrRange},
		{"data beyond the end", piece(name, 5, 1, "hello"), api.ErrRange},
		{"too much data", piece(name, 4096, 0, x(257)), api.ErrLimit},
		{"a number of more than 64 bits", seal("C" + low(name) + "\xff\xff\xff\xff\xff\xff\xff\xff\xff\x02"), api.ErrLimit},
	}
}

// Promises 18.1, P2, P3: what is no piece isn't taken: chunk's errors, bare, ahead of that it is of another thing; nothing is changed, nor is name or total told.
func TestTakeTellsWhatIsWrong(t *testing.T) {
	const s = "hello"
	for _, b := range bads(castagnoli(s)) {
		checkNotTake(t, b.name+", first", recv.New(), b.s, b.want)
		checkNotTake(t, b.name+", behind a part", filled(t, part(s, 2, 4)), b.s, b.want)
		checkNotTake(t, b.name+", behind all", filled(t, part(s, 0, 5)), b.s, b.want)
		checkNotTake(t, b.name+", behind another thing", filled(t, part("others", 0, 2)), b.s, b.want)
		r := recv.New()
		r.Take(b.s)
		take(t, r, part("others", 0, 6))
		checkText(t, b.name+", and another thing then", r, "others")
		r.Mark()
		checkSectors(t, b.name, r, map[int]string{0: record(0, castagnoli("others"), 6, 0)})
	}
}

// Promises 18.1, P3: a piece of another thing isn't taken, be it there in part, in all, or by a record alone.
func TestTakeTellsOfAnotherThing(t *testing.T) {
	const s = "hello"
	name := castagnoli(s)
	others := map[string]string{
		"another name":                 piece(name+1, 5, 0, "hello"),
		"a name that differs on top":   piece(name^1<<31, 5, 0, "hello"),
		"a name that is turned round":  piece(binary.BigEndian.Uint32([]byte(low(name))), 5, 0, "hello"),
		"a name of 0":                  piece(0, 5, 0, "hello"),
		"a Total of one more":          piece(name, 6, 0, "hello"),
		"a Total of one less":          piece(name, 4, 0, "hell"),
		"a Total of as many as may be": piece(name, 4096, 0, "hello"),
		"another name and Total":       part("others", 0, 6),
		"nothing new":                  piece(name+1, 5, 0, "h"),
	}
	for what, o := range others {
		checkNotTake(t, what+", behind a part", filled(t, part(s, 0, 2)), o, api.ErrState)
		checkNotTake(t, what+", behind a gap", filled(t, part(s, 2, 4)), o, api.ErrState)
		checkNotTake(t, what+", behind all", filled(t, part(s, 0, 5)), o, api.ErrState)
		r := filled(t, part(s, 4, 5))
		settle(r)
		checkCrash(t, what, r, 0, 0)
		checkNotTake(t, what+", behind a record", r, o, api.ErrState)
		take(t, r, part(s, 0, 5))
		checkText(t, what+", and the thing then", r, s)
	}
	r := filled(t, piece(0, 1, 0, "a"))
	checkNotTake(t, "another name than 0", r, piece(1, 1, 0, "a"), api.ErrState)
	take(t, r, piece(0, 1, 0, "b"))
}

// Promises 18.1, P2, P3: what is missing, ahead, between or behind, is told ahead of that it isn't what the name tells.
func TestNoText(t *testing.T) {
	const s = "hello"
	name := castagnoli(s)
	checkNoText(t, "nothing", recv.New(), api.ErrNone)
	for _, c := range []struct {
		name string
		l    []string
	}{
		{"the first byte", []string{part(s, 1, 5)}},
		{"the last byte", []string{part(s, 0, 4)}},
		{"one between", []string{part(s, 0, 2), part(s, 3, 5)}},
		{"all but one", []string{part(s, 2, 3)}},
		{"something, and what is there is false", []string{piece(name, 5, 0, "Hell")}},
	} {
		checkNoText(t, c.name+" is missing", filled(t, c.l...), api.ErrMissing)
	}
	for _, c := range []struct {
		name string
		l    []string
	}{
		{"one byte", []string{piece(name, 5, 0, "Hello")}},
		{"the last one", []string{part(s, 0, 4), piece(name, 5, 4, "O")}},
		{"all", []string{piece(name, 5, 0, "other")}},
		{"the name", []string{piece(0, 5, 0, s)}},
		{"the name, turned round", []string{piece(binary.BigEndian.Uint32([]byte(low(name))), 5, 0, s)}},
		{"how many there are", []string{piece(name, 6, 0, s+"\x00")}},
	} {
		r := filled(t, c.l...)
		checkNoText(t, c.name+" is false", r, api.ErrSpoilt)
		take(t, r, c.l...)
		checkNoText(t, c.name+" is false, again", r, api.ErrSpoilt)
	}
}

// saved are the sectors that a text is in.
func saved(s string) map[int]string {
	m := map[int]string{}
	for at := 0; at < len(s); at += 32 {
		m[2+at/32] = s[at:min(at+32, len(s))]
	}
	return m
}

// Promise 18.2: Save writes all sectors from what was saved, rounded down, up to Offer; nothing behind a gap is written.
func TestSave(t *testing.T) {
	s := noise(2, 101)
	for first := range 101 {
		for second := first; second <= 100; second++ {
			name := fmt.Sprint(first, " and ", second)
			r := filled(t, piece(castagnoli(s), 102, 101, "z"))
			if first > 0 {
				take(t, r, piece(castagnoli(s), 102, 0, s[:first]))
			}
			r.Save()
			checkSectors(t, name, r, saved(s[:first]))
			checkCounts(t, name, r, first, 0)
			r.Flush()
			checkCounts(t, name, r, first, first)
			if second > first {
				take(t, r, piece(castagnoli(s), 102, first, s[first:second]))
			}
			checkDirty(t, name, r)
			r.Save()
			var want []int
			for at := first / 32; at*32 < second; at++ {
				want = append(want, 2+at)
			}
			checkDirty(t, name, r, want...)
			checkSectors(t, name, r, saved(s[:second]))
			checkCounts(t, name, r, second, first)
		}
	}
}

// Promise 18.2: Save again writes what is in part a sector's, and nothing, if all are whole; what was saved, but not flushed, counts.
func TestSaveAgain(t *testing.T) {
	s := noise(3, 96)
	r := filled(t, part(s, 0, 40))
	r.Save()
	checkDirty(t, "saved", r, 2, 3)
	r.Disk().Sync()
	r.Save()
	checkDirty(t, "saved again", r, 3)
	r.Disk().Sync()
	take(t, r, part(s, 40, 64))
	r.Save()
	checkDirty(t, "a whole sector", r, 3)
	r.Disk().Sync()
	r.Save()
	checkDirty(t, "nothing new", r)
	take(t, r, part(s, 65, 96))
	r.Save()
	checkDirty(t, "a gap", r)
	checkSectors(t, "a gap", r, saved(s[:64]))
	take(t, r, part(s, 64, 65))
	r.Save()
	checkDirty(t, "all", r, 4)
	checkSectors(t, "all", r, saved(s))
	checkCounts(t, "all", r, 96, 0)
	r.Flush()
	checkCounts(t, "flushed", r, 96, 96)
}

// Promise 18.2: as many bytes as may be, in sectors 2 to 129.
func TestSaveOfAll(t *testing.T) {
	s := noise(4, 4096)
	r := filled(t, parts(s, 256)...)
	r.Save()
	checkSectors(t, "all", r, saved(s))
	var want []int
	for at := 2; at < 130; at++ {
		want = append(want, at)
	}
	checkDirty(t, "all", r, want...)
	settle(r)
	checkCrash(t, "all", r, 0, 4096)
	checkText(t, "all", r, s)
}

// Promise 18.2: Flush lets all last that was written, and what is safe is what was saved, not what came since.
func TestFlush(t *testing.T) {
	s := noise(5, 100)
	r := filled(t, part(s, 0, 50))
	r.Flush()
	checkCounts(t, "nothing saved", r, 50, 0)
	r.Save()
	take(t, r, part(s, 50, 100))
	checkCounts(t, "saved", r, 100, 0)
	r.Mark()
	checkDirty(t, "marked", r, 0, 2, 3)
	r.Flush()
	checkDirty(t, "flushed", r)
	checkCounts(t, "flushed", r, 100, 50)
	checkSectors(t, "flushed", r, map[int]string{0: record(0, castagnoli(s), 100, 0), 2: s[:32], 3: s[32:50]})
	r.Flush()
	checkCounts(t, "flushed again", r, 100, 50)
}

// Promise 18.2: records by turns, with how many were written ahead, and how many bytes last then.
func TestMark(t *testing.T) {
	s := noise(6, 1000)
	r := filled(t, part(s, 999, 1000))
	want := []string{full(""), full("")}
	for i := range 400 {
		r.Mark()
		want[i%2] = full(record(i, castagnoli(s), 1000, i))
		if got := sectors(r)[:2]; !slices.Equal(got, want) {
			t.Fatalf("record %d: the sectors are %x; want %x", i, got, want)
		}
		checkDirty(t, fmt.Sprint("record ", i), r, i%2)
		take(t, r, part(s, i, i+1))
		r.Save()
		r.Flush()
	}
}

// Promise 18.2: what is saved but not flushed isn't told by a record.
func TestMarkTellsWhatIsSafe(t *testing.T) {
	s := noise(7, 60)
	r := filled(t, part(s, 0, 40))
	name := castagnoli(s)
	r.Mark()
	r.Save()
	r.Mark()
	checkDirty(t, "not flushed", r, 0, 1, 2, 3)
	checkSectors(t, "not flushed", r, map[int]string{0: record(0, name, 60, 0), 1: record(1, name, 60, 0), 2: s[:32], 3: s[32:40]})
	r.Flush()
	take(t, r, part(s, 40, 60))
	r.Save()
	r.Mark()
	checkDirty(t, "flushed", r, 0, 3)
	checkSectors(t, "flushed", r, map[int]string{0: record(2, name, 60, 40), 1: record(1, name, 60, 0), 2: s[:32], 3: s[32:60]})
	checkCrash(t, "flushed", r, all, 40)
}

// Promise 18.2: records byte by byte, with sums that were computed apart from this program.
func TestKnownRecords(t *testing.T) {
	for _, c := range []struct {
		s    string
		want []string
	}{
		{"hello world", []string{"5200aa6594c90b00d1e4baee", "5201aa6594c90b0b2263301f"}},
		{"123456789", []string{"5200839206e30900d918eb34", "5201839206e30909ddef5a24"}},
		{x(4096), []string{"52001fb26aa48020007cede52c", "52011fb26aa4802080200e8fca41"}},
	} {
		r := filled(t, parts(c.s, 256)...)
		r.Mark()
		settle(r)
		for at, want := range c.want {
			s, _ := r.Disk().Read(at)
			if got := hex.EncodeToString([]byte(s)); got != want+strings.Repeat("00", 32-len(want)/2) {
				t.Errorf("record %d of %.20q is %s; want %s", at, c.s, got, want)
			}
		}
	}
}

// Promise 18.3: what isn't on the disk is lost; what is, lasts, and the rest may come then.
func TestCrash(t *testing.T) {
	const s = "hello world"
	l := parts(s, 4)
	r := filled(t, l...)
	checkCrash(t, "not saved", r, all, 0)
	checkNoText(t, "not saved", r, api.ErrNone)
	checkSectors(t, "not saved", r, nil)

	take(t, r, l[0])
	r.Save()
	checkCrash(t, "no record", r, all, 0)
	checkNoText(t, "no record", r, api.ErrNone)
	checkSectors(t, "no record", r, map[int]string{2: "hell"})

	take(t, r, l[0])
	r.Save()
	r.Flush()
	r.Mark()
	checkCrash(t, "a record that doesn't last", r, 0, 0)
	checkNoText(t, "a record that doesn't last", r, api.ErrNone)

	take(t, r, l[0], l[2])
	settle(r)
	checkCrash(t, "a record that lasts", r, 0, 4)
	checkNoText(t, "a record that lasts", r, api.ErrMissing)
	take(t, r, l[1])
	checkCounts(t, "what was behind a gap is lost", r, 8, 4)
	take(t, r, l[2])
	checkText(t, "all came", r, s)
	checkCrash(t, "not saved again", r, all, 4)
	checkCrash(t, "nothing came since", r, 0, 4)
	take(t, r, l[1:]...)
	settle(r)
	checkCrash(t, "all lasts", r, 0, 11)
	checkText(t, "all lasts", r, s)
}

// Promise 18.3: without a record nothing came: another thing may come, which has its own records, from the first one on.
func TestAnotherThingBehindACrash(t *testing.T) {
	r := filled(t, parts(x(100), 50)...)
	r.Save()
	r.Flush()
	r.Mark()
	r.Mark()
	r.Mark()
	checkCrash(t, "no record lasts", r, 0, 0)
	take(t, r, part("hello", 0, 5))
	checkText(t, "another thing", r, "hello")
	settle(r)
	want := saved(x(100))
	want[0], want[2] = record(0, castagnoli("hello"), 5, 5), "hello"
	checkSectors(t, "another thing", r, want)
	checkCrash(t, "another thing", r, 0, 5)
	checkText(t, "another thing, crashed", r, "hello")
	checkNotTake(t, "the one ahead", r, part(x(100), 0, 50), api.ErrState)
}

// Promise 18.3: a record of no bytes tells name and total: something came.
func TestRecordOfNoBytes(t *testing.T) {
	r := filled(t, part("hello", 2, 5))
	r.Mark()
	checkCrash(t, "no bytes", r, 1, 0)
	checkNoText(t, "no bytes", r, api.ErrMissing)
	checkNotTake(t, "another thing", r, part("other", 0, 5), api.ErrState)
	r.Mark()
	checkSectors(t, "marked, though no bytes came", r, map[int]string{0: record(0, castagnoli("hello"), 5, 0), 1: record(1, castagnoli("hello"), 5, 0)})
	take(t, r, part("hello", 0, 5))
	checkText(t, "no bytes, and all then", r, "hello")
}

// Promise 18.3: the record with more ahead of it tells, of those that last; the next one is one more, in the other sector.
func TestLatestRecordThatLasts(t *testing.T) {
	s := noise(8, 100)
	name := castagnoli(s)
	for n := range 6 {
		for mask := range uint64(4) {
			what := fmt.Sprintf("%d records, mask %d", n, mask)
			r := filled(t, part(s, 99, 100))
			// So many records last, each of ten bytes more; two don't yet.
			for i := range n {
				r.Mark()
				take(t, r, part(s, 10*i, 10*i+10))
				r.Save()
				r.Flush()
			}
			r.Mark()
			r.Mark()
			checkDirty(t, what, r, 0, 1)
			last := n - 1
			for i := n; i < n+2; i++ {
				if mask>>(i%2)&1 == 1 {
					last = i
				}
			}
			if last < 0 {
				checkCrash(t, what, r, mask, 0)
				checkNoText(t, what, r, api.ErrNone)
				continue
			}
			safe := 10 * min(last, n)
			checkCrash(t, what, r, mask, safe)
			want := sectors(r)
			r.Mark()
			want[(last+1)%2] = full(record(last+1, name, 100, safe))
			if got := sectors(r); !slices.Equal(got, want) {
				t.Errorf("%s: the sectors are %x; want %x", what, got[:2], want[:2])
			}
			checkNotTake(t, what, r, piece(name, 101, 0, "a"), api.ErrState)
			checkNotTake(t, what, r, piece(name+1, 100, 0, "a"), api.ErrState)
			take(t, r, part(s, safe, 100))
			checkText(t, what, r, s)
		}
	}
}

// Promise 18.3: what lasts is SAVED, too: Save goes on from there.
func TestSaveBehindACrash(t *testing.T) {
	s := noise(9, 200)
	for _, safe := range []int{0, 1, 31, 32, 33, 63, 64, 65, 100} {
		r := filled(t, part(s, 150, 200))
		if safe > 0 {
			take(t, r, part(s, 0, safe))
		}
		settle(r)
		take(t, r, part(s, safe, 150))
		r.Save()
		checkCrash(t, fmt.Sprint(safe), r, 0, safe)
		take(t, r, part(s, safe, 120))
		r.Save()
		var want []int
		for at := safe / 32; at*32 < 120; at++ {
			want = append(want, 2+at)
		}
		checkDirty(t, fmt.Sprint(safe), r, want...)
		r.Flush()
		checkCounts(t, fmt.Sprint(safe), r, 120, 120)
		sectors := saved(s[:120])
		sectors[0] = record(0, castagnoli(s), 200, safe)
		checkSectors(t, fmt.Sprint(safe), r, sectors)
	}
}

// Promise 18.3: bytes are there as the sectors have them, up to SAFE, whatever is behind in the last one.
func TestBytesOfSectors(t *testing.T) {
	s := noise(10, 90)
	for safe := range 91 {
		r := filled(t, part(s, 0, 90))
		r.Save()
		r.Flush()
		r.Disk().Write(0, record(0, castagnoli(s), 90, safe))
		checkCrash(t, fmt.Sprint(safe), r, 1, safe)
		if safe < 90 {
			checkNoText(t, fmt.Sprint(safe), r, api.ErrMissing)
			take(t, r, part(s, safe, 90))
		}
		checkText(t, fmt.Sprint(safe), r, s)
	}
	r := filled(t, part(s, 0, 90))
	settle(r)
	r.Disk().Write(3, x(32))
	checkCrash(t, "other bytes", r, 1, 90)
	checkNoText(t, "other bytes", r, api.ErrSpoilt)
	take(t, r, part(s, 0, 90))
	checkNoText(t, "other bytes stay", r, api.ErrSpoilt)
}

// torn are sectors that have no whole record of more ahead than 4, and what is wrong with them.
func torn(name uint32) map[string]string {
	whole := record(5, name, 50, 40)
	m := map[string]string{
		"nothing":                         "",
		"noughts with a sum":              seal(strings.Repeat("\x00", 28)),
		"bytes of something":              x(32),
		"another beginning":               seal("C\x05" + low(name) + "\x32\x28"),
		"a nought for a beginning":        seal("\x00\x05" + low(name) + "\x32\x28"),
		"no beginning":                    seal("\x05" + low(name) + "\x32\x28"),
		"a beginning alone":               seal("R"),
		"no name":                         seal("R\x05"),
		"half a name":                     seal("R\x05ab"),
		"no total":                        seal("R\x05" + low(name)),
		"no SAFE":                         seal("R\x05" + low(name) + "\x32"),
		"a count with a nought on top":    seal("R\x85\x00" + low(name) + "\x32\x28"),
		"a total with a nought on top":    seal("R\x05" + low(name) + "\xb2\x00\x28"),
		"a SAFE with a nought on top":     seal("R\x05" + low(name) + "\x32\xa8\x00"),
		"a count of more than 64 bits":    seal("R" + strings.Repeat("\xff", 9) + "\x02" + low(name) + "\x32\x28"),
		"a count without an end":          "R" + strings.Repeat("\xff", 31),
		"a total of 0":                    record(5, name, 0, 0),
		"a total of 0, and a SAFE of 1":   record(5, name, 0, 1),
		"a record of noughts":             record(0, 0, 0, 0),
		"a total of more than there are":  record(5, name, 4097, 40),
		"a total of far too many":         record(5, name, math.MaxInt, 40),
		"a SAFE of one above":             record(5, name, 50, 51),
		"a SAFE far above":                record(5, name, 50, 4096),
		"a SAFE of as many as may be":     record(5, name, 50, math.MaxInt),
		"a byte far behind the sum":       whole + strings.Repeat("\x00", 31-len(whole)) + "\x01",
		"a nought ahead of the sum":       seal("R\x05" + low(name) + "\x32\x28\x00"),
		"a nought ahead":                  "\x00" + whole,
		"a sum of noughts":                whole[:len(whole)-4],
		"a sum of what is ahead of R":     whole[:len(whole)-4] + low(castagnoli(whole[1:len(whole)-4])),
		"a sum with its bytes turned":     whole[:len(whole)-4] + string([]byte{whole[len(whole)-1], whole[len(whole)-2], whole[len(whole)-3], whole[len(whole)-4]}),
		"a sum of the sector but for it":  seal(whole[:len(whole)-4] + strings.Repeat("\x00", 32-len(whole))),
		"a whole one's first half":        whole[:len(whole)/2],
		"a whole one but its last byte":   whole[:len(whole)-1],
		"a whole one but its first byte":  whole[1:],
		"a piece":                         piece(name, 50, 0, "hello"),
		"another record's sum":            whole[:len(whole)-4] + record(6, name, 50, 40)[len(whole)-4:],
		"another record's count":          "R\x06" + whole[2:],
		"another record's SAFE, no sum":   strings.Replace(whole, "\x32\x28", "\x32\x29", 1),
		"another record's total, no sum":  strings.Replace(whole, "\x32\x28", "\x33\x28", 1),
		"another name, without its sum":   "R\x05" + low(name+1) + whole[6:],
		"a sum of more, laid over itself": seal(whole),
	}
	for b := 1; b < 256; b++ {
		m[fmt.Sprintf("a byte %d behind the sum", b)] = whole + string([]byte{byte(b)})
	}
	for bit := range 8 * len(whole) {
		b := []byte(whole)
		b[bit/8] ^= 1 << (bit % 8)
		m[fmt.Sprintf("bit %d turned", bit)] = string(b)
	}
	return m
}

// checkAnew crashes a receiver that has no record: nothing came, nor was a record written.
func checkAnew(t *testing.T, name string, r *recv.Receiver) {
	t.Helper()
	checkCrash(t, name, r, 0, 0)
	checkNoText(t, name, r, api.ErrNone)
	take(t, r, part("other", 0, 5))
	checkText(t, name, r, "other")
	r.Mark()
	if s, _ := r.Disk().Read(0); s != full(record(0, castagnoli("other"), 5, 0)) {
		t.Errorf("%s: the first record is %x", name, s)
	}
}

// Promise 18.3: a record that isn't whole tells nothing: the other one does, or nothing came.
func TestRecordsThatAreNotWhole(t *testing.T) {
	s := noise(11, 50)
	name := castagnoli(s)
	made := func(sectors ...string) *recv.Receiver {
		r := filled(t, part(s, 0, 50))
		r.Save()
		for at, s := range sectors {
			if err := r.Disk().Write(at, s); err != nil {
				t.Fatalf("Write(%d, %x) = %v", at, s, err)
			}
		}
		r.Flush()
		return r
	}
	for what, sector := range torn(name) {
		for at := range 2 {
			l := []string{"", ""}
			l[at] = sector
			r := made(l...)
			checkAnew(t, fmt.Sprintf("%s, alone in %d", what, at), r)
			l[1-at] = record(4, name, 50, 33)
			r = made(l...)
			checkCrash(t, fmt.Sprintf("%s in %d, a whole one in the other", what, at), r, 0, 33)
			r.Mark()
			if got, _ := r.Disk().Read(1); got != full(record(5, name, 50, 33)) {
				t.Errorf("%s: the next record is %x", what, got)
			}
		}
		r := made(sector, sector)
		checkAnew(t, what+", in both", r)
	}
}

// Promise 18.3: records that are whole, whatever they tell, and in whichever sector.
func TestRecordsThatAreWhole(t *testing.T) {
	s := noise(12, 4096)
	for _, name := range []uint32{0, 1, 0x80, 0xff00, 1 << 24, 1 << 31, math.MaxUint32, 0xfe028041} {
		for _, ahead := range []int{0, 1, 2, 127, 128, 129, 16383, 16384, 1 << 31, 1<<40 + 1} {
			for _, total := range []int{1, 2, 127, 128, 4095, 4096} {
				for _, safe := range []int{0, 1, total / 2, total - 1, total} {
					for at := range 2 {
						r := recv.New()
						for sector, bytes := range saved(s) {
							r.Disk().Write(sector, bytes)
						}
						r.Disk().Write(at, record(ahead, name, total, safe))
						r.Flush()
						what := fmt.Sprint(name, ahead, total, safe, at)
						checkCrash(t, what, r, 0, safe)
						r.Mark()
						if got, _ := r.Disk().Read((ahead + 1) % 2); got != full(record(ahead+1, name, total, safe)) {
							t.Errorf("%s: the next record is %x", what, got)
						}
						if safe == total && castagnoli(s[:total]) != name {
							checkNoText(t, what, r, api.ErrSpoilt)
						}
						if t.Failed() {
							return
						}
					}
				}
			}
		}
	}
}

// Promise 18.3: of two whole records the one with more ahead of it tells, whichever sector it is in.
func TestOfTwoRecordsTheLaterOne(t *testing.T) {
	s := noise(13, 80)
	for _, c := range [][2]int{{0, 1}, {2, 1}, {2, 3}, {1, 0}, {127, 128}, {128, 127}, {129, 128}, {255, 256}, {256, 1}, {16384, 16383}, {1 << 40, 3}, {3, 1 << 40}, {1 << 32, 1<<32 - 1}, {0, 1 << 33}} {
		r := filled(t, part(s, 0, 80))
		r.Save()
		r.Disk().Write(0, record(c[0], 7, 70, 20))
		r.Disk().Write(1, record(c[1], 9, 75, 30))
		r.Flush()
		name, total, want := uint32(7), 70, 20
		if c[1] > c[0] {
			name, total, want = 9, 75, 30
		}
		checkCrash(t, fmt.Sprint(c), r, 0, want)
		checkNotTake(t, fmt.Sprint(c), r, piece(16-name, 145-total, 0, "a"), api.ErrState)
		take(t, r, piece(name, total, want, x(total-want)))
		checkCounts(t, fmt.Sprint(c), r, total, want)
	}
}

// spelled is a receiver, spelled out: which bytes are there, what its sectors have, and what they had when they were synced.
type spelled struct {
	name                        uint32
	total, saved, safe, records int
	there                       map[int]byte
	now, lasting                [140]sector
	since                       map[int]bool
}

// sector is what one has, and the record that it is, if it is one.
type sector struct {
	s      string
	record *spelledRecord
}

// spelledRecord is what a record tells.
type spelledRecord struct {
	name               uint32
	ahead, total, safe int
}

// newSpelled is one to whom nothing came.
func newSpelled() *spelled {
	return &spelled{there: map[int]byte{}, since: map[int]bool{}}
}

// take takes in a piece that is right.
func (p *spelled) take(name uint32, total, at int, data string) api.Errno {
	if p.total > 0 && (p.name != name || p.total != total) {
		return api.ErrState
	}
	p.name, p.total = name, total
	for i, b := range []byte(data) {
		if _, ok := p.there[at+i]; !ok {
			p.there[at+i] = b
		}
	}
	return api.OK
}

// text are all bytes that are there without a gap.
func (p *spelled) text() string {
	var b []byte
	for {
		c, ok := p.there[len(b)]
		if !ok {
			return string(b)
		}
		b = append(b, c)
	}
}

// write writes a sector.
func (p *spelled) write(at int, s string, r *spelledRecord) {
	p.now[at] = sector{s: s, record: r}
	p.since[at] = true
}

// save writes each sector of which some byte is saved now, and wasn't, or may have others behind it.
func (p *spelled) save() {
	s := p.text()
	for at := 0; at < len(s); at += 32 {
		if at+32 > p.saved {
			p.write(2+at/32, s[at:min(at+32, len(s))], nil)
		}
	}
	p.saved = len(s)
}

// flush lets all last.
func (p *spelled) flush() {
	p.lasting, p.safe = p.now, p.saved
	clear(p.since)
}

// mark writes a record.
func (p *spelled) mark() {
	if p.total == 0 {
		return
	}
	r := &spelledRecord{name: p.name, ahead: p.records, total: p.total, safe: p.safe}
	p.write(p.records%2, record(r.ahead, r.name, r.total, r.safe), r)
	p.records++
}

// crash lets some last, and begins anew with what does.
func (p *spelled) crash(mask uint64) int {
	i := 0
	for at := range p.now {
		if !p.since[at] {
			continue
		}
		if mask&(1<<min(i, 63)) != 0 {
			p.lasting[at] = p.now[at]
		}
		i++
	}
	*p = spelled{there: map[int]byte{}, since: map[int]bool{}, now: p.lasting, lasting: p.lasting}
	last := p.now[0].record
	if other := p.now[1].record; last == nil || other != nil && other.ahead > last.ahead {
		last = other
	}
	if last == nil {
		return 0
	}
	p.name, p.total, p.safe, p.saved, p.records = last.name, last.total, last.safe, last.safe, last.ahead+1
	for at := range last.safe {
		p.there[at] = full(p.now[2+at/32].s)[at%32]
	}
	return last.safe
}

// look is all that can be asked of it, as look of a receiver has it.
func (p *spelled) look() string {
	text := p.text()
	offer, err := len(text), error(nil)
	switch {
	case p.total == 0:
		text, err = "", api.ErrNone
	case len(text) < p.total:
		text, err = "", api.ErrMissing
	case castagnoli(text) != p.name:
		text, err = "", api.ErrSpoilt
	}
	var dirty []int
	var l []string
	for at := range p.now {
		l = append(l, full(p.now[at].s))
		if p.since[at] {
			dirty = append(dirty, at)
		}
	}
	return fmt.Sprint(offer, p.safe, dirty, err) + text + strings.Join(l, "")
}

// step does something by chance to both, and asks both for the same answer.
func step(t *testing.T, c *chance, r *recv.Receiver, p *spelled, texts []string) {
	t.Helper()
	switch c.next(24) {
	case 0:
		mask := []uint64{0, all, c.mask(), c.mask(), c.mask()}[c.next(5)]
		if got, want := r.Crash(mask), p.crash(mask); got != want {
			t.Fatalf("Crash(%x) = %d; want %d", mask, got, want)
		}
	case 1, 2:
		r.Mark()
		p.mark()
	case 3, 4:
		r.Flush()
		p.flush()
	case 5, 6, 7:
		r.Save()
		p.save()
	case 8:
		// Bytes of the name that aren't the text's.
		s := texts[0]
		at := c.next(len(s))
		data := noise(c.next(1000), 1+c.next(min(len(s)-at, 256)))
		checkSame(t, r, p, castagnoli(s), len(s), at, data)
	case 9:
		s := texts[c.next(len(texts))]
		checkSame(t, r, p, castagnoli(s), len(s), 0, s[:1])
	default:
		s := texts[0]
		at := min(c.next(len(s)), c.next(len(s)))
		if c.next(2) == 0 && r.Offer() < len(s) {
			at = r.Offer()
		}
		checkSame(t, r, p, castagnoli(s), len(s), at, s[at:at+1+c.next(min(len(s)-at, 256))])
	}
}

// checkSame lets both take a piece.
func checkSame(t *testing.T, r *recv.Receiver, p *spelled, name uint32, total, at int, data string) {
	t.Helper()
	e, place := plain.Place(r.Take(piece(name, total, at, data)))
	if want := p.take(name, total, at, data); e != want || place != -1 {
		t.Fatalf("Take of %q at %d = error %d at %d; want %d", data, at, e, place, want)
	}
}

// Promises 18.1, 18.2, 18.3: what is done by chance to receivers, against the promises spelled out.
func TestReceiversAgainstThePromises(t *testing.T) {
	for i := range 300 {
		c := chance(i)
		var texts []string
		for range 3 {
			texts = append(texts, noise(c.next(1000), 1+c.next([]int{5, 40, 100, 900, 4096}[i%5])))
		}
		r, p := recv.New(), newSpelled()
		for n := range 150 {
			step(t, &c, r, p, texts)
			if got, want := look(r), p.look(); got != want {
				t.Fatalf("receiver %d, step %d: it is %q; want %q", i, n, got, want)
			}
		}
	}
}

// Promises 18.1 to 18.3 (and what is to be true of the whole, 6): what is told to be the text is; what lasts lasts, whatever mask it is; once all that is left comes, it is there.
func TestNothingElseIsEverThere(t *testing.T) {
	for i := range 400 {
		c := chance(i)
		s := noise(i, 1+c.next(600))
		l := parts(s, 1+c.next(60))
		r := recv.New()
		lasts := 0
		for range 60 {
			switch c.next(6) {
			case 0:
				settle(r)
				lasts = r.Offer()
			case 1:
				mask := c.mask()
				// What is written half-way may last or not; what lasted does.
				for _, do := range []func(){r.Save, r.Flush, r.Mark}[:c.next(4)] {
					do()
				}
				n := r.Crash(mask)
				if n < lasts || r.Offer() != n || r.Safe() != n {
					t.Fatalf("receiver %d: %d bytes are there, %d, %d; %d lasted", i, n, r.Offer(), r.Safe(), lasts)
				}
				lasts = n
			case 2:
				b := []byte(l[c.next(len(l))])
				b[c.next(len(b))] ^= byte(1 + c.next(255))
				if err := r.Take(string(b)); err == nil {
					t.Fatalf("receiver %d takes %x, which is spoilt", i, b)
				}
			default:
				take(t, r, l[c.next(len(l))])
			}
			if text, err := r.Text(); err == nil && text != s {
				t.Fatalf("receiver %d tells %q; the text is %q", i, text, s)
			}
		}
		take(t, r, l...)
		checkText(t, fmt.Sprint("receiver ", i), r, s)
	}
}

// Promise P1: whatever a receiver is told, each call ends, and the next one, too.
func TestWhateverItIsTold(t *testing.T) {
	parts := []string{"C", "\x00", "\x01", "\x05", "\x80", "\xff", "\x80\x20", "abcd", x(256)}
	r := recv.New()
	for i := range 40_000 {
		c := chance(i)
		s := "Cname"
		for range 1 + c.next(6) {
			s += parts[c.next(len(parts))]
		}
		if c.next(8) > 0 {
			s = seal(s)
		}
		if e := api.Tell(r.Take(s)); e < 0 {
			t.Fatalf("Take(%x) = error %d", s, e)
		}
		switch c.next(40) {
		case 0:
			r.Save()
		case 1:
			r.Flush()
		case 2:
			r.Mark()
		case 3:
			if n := r.Crash(c.mask()); n != r.Safe() {
				t.Fatalf("Crash = %d; Safe() = %d", n, r.Safe())
			}
		case 4:
			r = recv.New()
		}
		if text, err := r.Text(); (err == nil) != (len(text) > 0) || r.Safe() > r.Offer() {
			t.Fatalf("Text() = %q, %v; %d are there, %d safe", text, err, r.Offer(), r.Safe())
		}
	}
}

// Promise P4: receivers have nothing in common.
func TestReceiversAreApart(t *testing.T) {
	a, b := recv.New(), filled(t, part("hello", 0, 5))
	before := look(a)
	settle(b)
	if now := look(a); now != before {
		t.Errorf("it was %q, and is %q now", before, now)
	}
	take(t, a, part("other", 0, 5))
	settle(a)
	checkCrash(t, "the one", a, 0, 5)
	checkText(t, "the one", a, "other")
	checkCrash(t, "the other", b, 0, 5)
	checkText(t, "the other", b, "hello")
}

// Promise P4: bytes that are handed in aren't kept.
func TestPiecesAreNotKept(t *testing.T) {
	s := noise(14, 256)
	b := []byte(part(s, 0, 256))
	r := filled(t, unsafe.String(&b[0], len(b)))
	clear(b)
	checkText(t, "changed then", r, s)
	settle(r)
	checkCrash(t, "changed then", r, 0, 256)
	checkText(t, "changed then, crashed", r, s)
}

// Promise P4: a text is the caller's: what is done to it isn't done to the receiver, nor to another one; and it stays as it is.
func TestTextsAreFresh(t *testing.T) {
	// (A text of one byte is the language's own, which nobody writes into.)
	for _, n := range []int{2, 32, 4096} {
		s := noise(15, n)
		r := filled(t, parts(s, 256)...)
		one, _ := r.Text()
		two, _ := r.Text()
		unsafe.Slice(unsafe.StringData(one), len(one))[0] ^= 1
		if two != s {
			t.Errorf("a text shares its memory with another one")
		}
		checkText(t, "spoilt", r, s)
		settle(r)
		checkCrash(t, "spoilt", r, 0, n)
		three, _ := r.Text()
		r.Disk().Write(2, "?")
		checkCrash(t, "other bytes", r, 1, n)
		if two != s || three != s {
			t.Errorf("a text is another one now")
		}
	}
}

// Promises 18.1, P4: what is asked hangs on what was done alone, however often it is asked.
func TestAnswersAreTheSameAgain(t *testing.T) {
	s := noise(16, 100)
	r := filled(t, part(s, 0, 40), part(s, 60, 100))
	r.Save()
	r.Mark()
	before := look(r)
	for range 3 {
		r.Offer()
		r.Safe()
		r.Text()
		if now := look(r); now != before {
			t.Errorf("it was %q, and is %q now", before, now)
		}
	}
}
