package link_test

import (
	"encoding/binary"
	"fmt"
	"hash/crc32"
	"math"
	"math/big"
	"reflect"
	"slices"
	"strings"
	"testing"
	"unsafe"

	"packtrain/api"
	"packtrain/disk"
	"packtrain/link"
	"packtrain/plain"
	"packtrain/recv"
)

// all is a mask by which everything lasts.
const all = math.MaxUint64

// castagnoli is the sum of 3.1.
func castagnoli(s string) uint32 {
	return crc32.Checksum([]byte(s), crc32.MakeTable(crc32.Castagnoli))
}

// low are the four bytes of a number, the lowest one first.
func low(n uint32) string { return string(binary.LittleEndian.AppendUint32(nil, n)) }

// number is a number as 1.1 has it.
func number(n int) string { return string(binary.AppendUvarint(nil, uint64(n))) }

// seal is a text with its sum, as 3.2 has it.
func seal(s string) string { return s + low(castagnoli(s)) }

// piece is a piece as 16.2 has it, of any name.
func piece(name uint32, total, at int, data string) string {
	return seal("C" + low(name) + number(total) + number(at) + data)
}

// parts are all pieces of a text, of so many bytes.
func parts(s string, size int) []string {
	var l []string
	for at := 0; at < len(s); at += size {
		l = append(l, piece(castagnoli(s), len(s), at, s[at:min(at+size, len(s))]))
	}
	return l
}

// record is a record as 18.2 has it.
func record(ahead int, s string, safe int) string {
	return seal("R" + number(ahead) + low(castagnoli(s)) + number(len(s)) + number(safe))
}

// full is what a sector has that a text was written to.
func full(s string) string { return s + strings.Repeat("\x00", 32-len(s)) }

// chance is a row of numbers without a rule.
type chance uint64

// next is one of so many numbers from 0 on.
func (c *chance) next(n int) int {
	*c = *c*6364136223846793005 + 1442695040888963407
	return int(uint64(*c) >> 33 % uint64(n))
}

// mask is any of 64 bits.
func (c *chance) mask() uint64 {
	return uint64(c.next(1<<22))<<42 | uint64(c.next(1<<21))<<21 | uint64(c.next(1<<21))
}

// noise are so many bytes without a rule.
func noise(seed, n int) string {
	b := make([]byte, n)
	c := chance(seed)
	for i := range b {
		b[i] = byte(c.next(256))
	}
	return string(b)
}

// ups is how many pieces there are of so many bytes, the last one of fewer.
func ups(n, size int) int { return (n + size - 1) / size }

// modulo is what a number of 64 bits from 0 on leaves.
func modulo(n, by int) int {
	b := new(big.Int).SetInt64(int64(n))
	if n < 0 {
		b.Add(b, new(big.Int).Lsh(big.NewInt(1), 64))
	}
	return int(b.Mod(b, big.NewInt(int64(by))).Int64())
}

// made is a link for a text that may be sent.
func made(t *testing.T, s string, size int) *link.Link {
	t.Helper()
	l, err := link.New(s, size)
	if l == nil || err != nil {
		t.Fatalf("New(a text of %d bytes, %d) = %v, %v; want a link", len(s), size, l, err)
	}
	return l
}

// step is a step with nothing wrong.
func step(t *testing.T, l *link.Link, s api.Step) {
	t.Helper()
	if err := l.Step(s); err != nil {
		t.Fatalf("Step(%+v) = %v; want no error", s, err)
	}
}

// deliver lets pieces of these numbers come.
func deliver(t *testing.T, l *link.Link, numbers ...int) {
	t.Helper()
	for _, n := range numbers {
		step(t, l, api.Step{Kind: api.Deliver, N: n})
	}
}

// take lets the receiver be given what it may take, by its own method.
func take(t *testing.T, l *link.Link, s string) {
	t.Helper()
	if err := l.Take(s); err != nil {
		t.Fatalf("Take(%x) = %v; want no error", s, err)
	}
}

// diskOf is a receiver's disk. No face shows it, but what a crash of number 1 does ahead can be seen nowhere else.
func diskOf(t *testing.T, r *recv.Receiver) *disk.Disk {
	t.Helper()
	f := reflect.ValueOf(r).Elem().FieldByName("disk")
	if !f.IsValid() || f.Type() != reflect.TypeFor[*disk.Disk]() {
		t.Fatal("a receiver keeps its disk elsewhere")
	}
	return *(**disk.Disk)(f.Addr().UnsafePointer())
}

// sectors are what all sectors have.
func sectors(t *testing.T, r *recv.Receiver) []string {
	t.Helper()
	var l []string
	for at := range 140 {
		s, err := diskOf(t, r).Read(at)
		if err != nil {
			t.Fatalf("Read(%d) = %v", at, err)
		}
		l = append(l, s)
	}
	return l
}

// look is all that can be asked of a receiver.
func look(t *testing.T, r *recv.Receiver) string {
	t.Helper()
	text, err := r.Text()
	return fmt.Sprint(r.Offer(), r.Safe(), diskOf(t, r).Dirty(), err) + text + strings.Join(sectors(t, r), "")
}

// lookAll is all that can be asked of a link.
func lookAll(t *testing.T, l *link.Link) string {
	t.Helper()
	return fmt.Sprint(l.Left(), " ") + look(t, l.Receiver)
}

// checkNotStep asks for an error, and that all is as it was.
func checkNotStep(t *testing.T, name string, l *link.Link, s api.Step, want api.Errno) {
	t.Helper()
	before := lookAll(t, l)
	if e, place := plain.Place(l.Step(s)); e != want || place != -1 {
		t.Errorf("%s: Step(%+v) = error %d at %d; want error %d", name, s, e, place, want)
	}
	if now := lookAll(t, l); now != before {
		t.Errorf("%s: Step(%+v): it was %q, and is %q now", name, s, before, now)
	}
}

// checkNothing asks for a step that does nothing, and has nothing wrong.
func checkNothing(t *testing.T, name string, l *link.Link, s api.Step) {
	t.Helper()
	checkNotStep(t, name, l, s, api.OK)
}

// checkLeft asks for Left.
func checkLeft(t *testing.T, name string, l *link.Link, want int) {
	t.Helper()
	if n := l.Left(); n != want {
		t.Errorf("%s: Left() = %d; want %d", name, n, want)
	}
}

// checkCounts asks for Offer, Safe and Left.
func checkCounts(t *testing.T, name string, l *link.Link, offer, safe, left int) {
	t.Helper()
	if o, s, n := l.Offer(), l.Safe(), l.Left(); o != offer || s != safe || n != left {
		t.Errorf("%s: Offer() = %d, Safe() = %d, Left() = %d; want %d, %d, %d", name, o, s, n, offer, safe, left)
	}
}

// checkText asks for the whole text.
func checkText(t *testing.T, name string, l *link.Link, want string) {
	t.Helper()
	if s, err := l.Text(); s != want || err != nil {
		t.Errorf("%s: Text() = %.100q, %v; want %.100q", name, s, err, want)
	}
}

// checkNoText asks for an error, and no text with it.
func checkNoText(t *testing.T, name string, l *link.Link, want api.Errno) {
	t.Helper()
	s, err := l.Text()
	if e, place := plain.Place(err); e != want || place != -1 || s != "" {
		t.Errorf("%s: Text() = %.100q, error %d at %d; want error %d", name, s, e, place, want)
	}
}

// checkSectors asks for what all sectors have, and which are dirty: texts and noughts behind them; where none is told, noughts alone.
func checkSectors(t *testing.T, name string, l *link.Link, want map[int]string, dirty ...int) {
	t.Helper()
	for at, s := range sectors(t, l.Receiver) {
		if s != full(want[at]) {
			t.Errorf("%s: sector %d has %x; want %x", name, at, s, full(want[at]))
		}
	}
	if got := diskOf(t, l.Receiver).Dirty(); !slices.Equal(got, dirty) {
		t.Errorf("%s: sectors %v are dirty; want %v", name, got, dirty)
	}
}

// Promise 19.1: a new one has all pieces to send, and nothing came yet.
func TestNew(t *testing.T) {
	lengths := []int{255, 256, 257, 1000, 4095, 4096}
	for n := 1; n <= 70; n++ {
		lengths = append(lengths, n)
	}
	for _, n := range lengths {
		for size := 1; size <= 256; size++ {
			l := made(t, noise(n, n), size)
			if checkCounts(t, fmt.Sprint(n, " by ", size), l, 0, 0, ups(n, size)); t.Failed() {
				return
			}
		}
	}
	l := made(t, "hello world", 4)
	checkNoText(t, "new", l, api.ErrNone)
	checkSectors(t, "new", l, nil)
}

// Promises 19.1, P2, P3: what can't be cut makes no link: how many bytes it has is told ahead of how many a piece has.
func TestNewTellsWhatIsWrong(t *testing.T) {
	check := func(n, size int, want api.Errno) {
		t.Helper()
		l, err := link.New(noise(1, n), size)
		if e, place := plain.Place(err); e != want || place != -1 || l != nil {
			t.Errorf("New(a text of %d bytes, %d) = %v, error %d at %d; want error %d", n, size, l, e, place, want)
		}
	}
	wrong := []int{math.MinInt, -1 << 32, -256, -1, 0, 257, 258, 4096, 1 << 32, 1<<32 + 1, math.MaxInt}
	for _, n := range []int{0, 4097, 4098, 8192, 1 << 16} {
		for _, size := range append([]int{1, 2, 255, 256}, wrong...) {
			check(n, size, api.ErrLimit)
		}
	}
	for _, n := range []int{1, 2, 256, 4095, 4096} {
		for _, size := range wrong {
			check(n, size, api.ErrRange)
		}
	}
}

// Promise 19.1: it has the methods of its Receiver, and they are that one's.
func TestItHasTheMethodsOfItsReceiver(t *testing.T) {
	const s = "hello world"
	l := made(t, s, 4)
	var r interface {
		Take(string) error
		Offer() int
		Safe() int
		Save()
		Flush()
		Mark()
		Crash(uint64) int
		Text() (string, error)
	} = l
	own := recv.New()
	check := func(name string) {
		t.Helper()
		if got, want := look(t, l.Receiver), look(t, own); got != want {
			t.Errorf("%s: it is %q; want %q", name, got, want)
		}
		if o, f := r.Offer(), r.Safe(); o != l.Receiver.Offer() || f != l.Receiver.Safe() {
			t.Errorf("%s: Offer() = %d, Safe() = %d; want its receiver's", name, o, f)
		}
	}
	check("new")
	for _, p := range parts(s, 4) {
		if one, two := r.Take(p), own.Take(p); one != nil || two != nil {
			t.Errorf("Take(%x) = %v, %v", p, one, two)
		}
		check("taken")
	}
	for name, do := range map[string]func(){"Save": r.Save, "Flush": r.Flush, "Mark": r.Mark} {
		do()
		map[string]func(){"Save": own.Save, "Flush": own.Flush, "Mark": own.Mark}[name]()
		check(name)
	}
	if got, want := r.Crash(all), own.Crash(all); got != want {
		t.Errorf("Crash() = %d; want %d", got, want)
	}
	check("crashed")
}

// others is a text of other bytes, each of which differs.
func others(s string) string {
	b := []byte(s)
	for i := range b {
		b[i] ^= 0xff
	}
	return string(b)
}

// fill lets other bytes come wherever none are yet, and saves all.
func fill(t *testing.T, l *link.Link, s string) {
	t.Helper()
	other := others(s)
	for at := 0; at < len(s); at += 256 {
		take(t, l, piece(castagnoli(s), len(s), at, other[at:min(at+256, len(s))]))
	}
	l.Save()
}

// checkCame asks which bytes of the text came: all others are filled, and the receiver's sectors tell them apart then.
func checkCame(t *testing.T, name string, l *link.Link, s string, from, to int) {
	t.Helper()
	fill(t, l, s)
	got := strings.Join(sectors(t, l.Receiver)[2:], "")[:len(s)]
	other := others(s)
	if want := other[:from] + s[from:to] + other[to:]; got != want {
		t.Errorf("%s: of %x there is %x; want bytes %d to %d", name, s, got, from, to)
	}
}

// Promises 19.1, 19.2: each piece comes by its number, has its bytes, and is told to be of the text.
func TestEachPiece(t *testing.T) {
	for _, n := range []int{1, 2, 3, 7, 12, 31, 32, 33, 40, 256, 257, 600, 4095, 4096} {
		s := noise(n, n)
		for _, size := range []int{1, 2, 3, 4, 5, 11, 31, 32, 33, 255, 256} {
			count := ups(n, size)
			for _, i := range []int{0, 1, 2, count / 2, count - 3, count - 2, count - 1} {
				if i < 0 || i >= count {
					continue
				}
				l := made(t, s, size)
				deliver(t, l, i)
				name := fmt.Sprintf("%d bytes by %d, piece %d", n, size, i)
				checkCounts(t, name, l, map[bool]int{true: min(size, n)}[i == 0], 0, count)
				l.Mark()
				checkSectors(t, name, l, map[int]string{0: record(0, s, 0)}, 0)
				checkCame(t, name, l, s, i*size, min(i*size+size, n))
				if t.Failed() {
					return
				}
			}
		}
	}
}

// Promise 19.2: all pieces, in any order, some twice: then the text is there.
func TestAllPieces(t *testing.T) {
	for _, n := range []int{1, 2, 31, 32, 33, 64, 100, 255, 256, 257, 1000, 4095, 4096} {
		for _, size := range []int{1, 2, 7, 31, 32, 33, 64, 255, 256} {
			s, name := noise(n+size, n), fmt.Sprint(n, " by ", size)
			forth, back, about := made(t, s, size), made(t, s, size), made(t, s, size)
			count := forth.Left()
			for i := range count {
				checkCounts(t, name, forth, i*size, 0, count)
				deliver(t, forth, i)
				deliver(t, back, count-1-i)
				// 4,099 is a prime above all counts: each number comes once.
				deliver(t, about, i*4099, i*4099)
			}
			for _, l := range []*link.Link{forth, back, about} {
				checkCounts(t, name, l, n, 0, count)
				checkText(t, name, l, s)
			}
			if t.Failed() {
				return
			}
		}
	}
}

// turned is Turn spelled out: the bits are those of one great number, the first byte its lowest one.
func turned(s string, mask uint64) string {
	if len(s) < 4 {
		return s
	}
	b := []byte(s)
	slices.Reverse(b)
	bits := new(big.Int).SetBytes(b)
	w := new(big.Int).SetUint64(mask & math.MaxUint32)
	a := mask / (1 << 32) % uint64(8*len(s)-31)
	bits.Xor(bits, w.Lsh(w, uint(a)))
	bits.FillBytes(b)
	slices.Reverse(b)
	return string(b)
}

// checkTurn asks for a text with some bits turned, and for the text again, if they are turned again.
func checkTurn(t *testing.T, s string, mask uint64, want string) {
	t.Helper()
	got := link.Turn(s, mask)
	if got != want {
		t.Errorf("Turn(%x, %x) = %x; want %x", s, mask, got, want)
	}
	if back := link.Turn(got, mask); back != s {
		t.Errorf("Turn(Turn(%x, %x)) = %x", s, mask, back)
	}
}

// Promise 19.1: known texts, turned.
func TestKnownTurns(t *testing.T) {
	for _, c := range []struct {
		s    string
		mask uint64
		want string
	}{
		{"abcd", 1, "`bcd"},
		{"abcd", 0, "abcd"},
		{"abcd", 0x80000000, "abc\xe4"},
		{"abcd", 0x20202020, "ABCD"},
		{"abcd", 0xffffffff, "\x9e\x9d\x9c\x9b"},
		{"abcd", 7<<32 | 1, "`bcd"},
		{"abcde", 1 << 32, "abcde"},
		{"abcde", 1<<32 | 1, "cbcde"},
		{"abcde", 8<<32 | 1, "accde"},
		{"abcde", 9<<32 | 1, "`bcde"},
		{"abcde", 8<<32 | 0x80000000, "abcd\xe5"},
		{"abcde", 4<<32 | 0x18, "\xe1ccde"},
		{"abcde", 0xffffffff<<32 | 1, "ibcde"}, // 4294967295 leaves 3 by 9
		{"\x00\x00\x00\x00", 0x12345678, "\x78\x56\x34\x12"},
		{"\x00\x00\x00\x00\x00\x00", 17<<32 | 1, "\x01\x00\x00\x00\x00\x00"},
		{"\x00\x00\x00\x00\x00\x00", 16<<32 | 0x12345678, "\x00\x00\x78\x56\x34\x12"},
		{"\x00\x00\x00\x00\x00\x00", 12<<32 | 0xabcdef12, "\x00\x20\xf1\xde\xbc\x0a"},
	} {
		checkTurn(t, c.s, c.mask, c.want)
	}
}

// Promise 19.1: a text of fewer than four bytes stays.
func TestShortTextsStay(t *testing.T) {
	for n := range 4 {
		for bit := range 64 {
			s := noise(bit, n)
			for _, mask := range []uint64{0, all, 1 << bit, ^uint64(1 << bit), math.MaxUint32, 1<<32 | 1<<bit} {
				checkTurn(t, s, mask, s)
			}
		}
	}
}

// Promise 19.1: wherever the first bit falls, up to the last place and round again, each bit alone, and all of them.
func TestEachBitIsTurned(t *testing.T) {
	for _, n := range []int{4, 5, 6, 7, 8, 13} {
		s := noise(n, n)
		for a := range uint64(3 * 8 * n) {
			for bit := range 32 {
				at := int(a)%(8*n-31) + bit
				b := []byte(s)
				b[at/8] ^= 1 << (at % 8)
				checkTurn(t, s, a<<32|1<<bit, string(b))
			}
			for _, w := range []uint64{0, math.MaxUint32, 0x80000001, 0x55555555, 0x12345678} {
				checkTurn(t, s, a<<32|w, turned(s, a<<32|w))
			}
		}
	}
}

// Promise 19.1: texts of all lengths, and masks by chance, against the promise spelled out.
func TestTurnsAgainstThePromise(t *testing.T) {
	for i := range 30_000 {
		c := chance(i)
		s, mask := noise(i, c.next([]int{10, 100, 2000}[i%3])), c.mask()
		checkTurn(t, s, mask, turned(s, mask))
	}
	for _, n := range []int{1 << 16, 1<<20 + 1} {
		s := noise(n, n)
		for _, mask := range []uint64{1, all, 1 << 63, uint64(8*n-32)<<32 | 1<<31, uint64(8*n-31)<<32 | 1} {
			checkTurn(t, s, mask, turned(s, mask))
		}
	}
}

// Promise P4: a text that is turned isn't written into, and what comes out is fresh memory, be anything turned or not.
func TestTurnedTextsAreFresh(t *testing.T) {
	for _, n := range []int{2, 3, 4, 5, 100} {
		for _, mask := range []uint64{0, 1, all, 1 << 32} {
			s := noise(n, n)
			kept := strings.Clone(s)
			out := link.Turn(s, mask)
			again := link.Turn(s, mask)
			unsafe.Slice(unsafe.StringData(out), n)[n-1] ^= 4
			if s != kept || again != turned(kept, mask) {
				t.Errorf("Turn(%x, %x) shares its memory", kept, mask)
			}
		}
	}
}

// numbers are some of 64 bits.
func numbers() []int {
	l := []int{math.MinInt, math.MinInt + 1, math.MinInt + 2, math.MaxInt - 1, math.MaxInt, 1 << 32, 1<<32 + 1, -1 << 32, 1 << 62, -1 << 62}
	for n := -20; n <= 20; n++ {
		l = append(l, n)
	}
	return l
}

// Promise 19.2: a number is one of 64 bits from 0 on, modulo how many pieces are Left.
func TestNumbersOfPieces(t *testing.T) {
	for count := 1; count <= 12; count++ {
		s := noise(count, 3*count-1)
		for from := range count {
			for _, n := range numbers() {
				l := made(t, s, 3)
				name := fmt.Sprintf("%d pieces, from %d on, number %d", count, from, n)
				if from > 0 {
					take(t, l, piece(castagnoli(s), len(s), 0, others(s)[:3*from]))
				}
				step(t, l, api.Step{Kind: api.Resume})
				checkLeft(t, name, l, count-from)
				deliver(t, l, n)
				i := from + modulo(n, count-from)
				checkCame(t, name, l, s, 3*i, min(3*i+3, len(s)))
				if t.Failed() {
					return
				}
			}
		}
	}
}

// Promise 19.2: known numbers, those below 0, too: -1 is 2^64 - 1.
func TestKnownNumbersOfPieces(t *testing.T) {
	for _, c := range []struct{ count, n, want int }{
		{3, 0, 0}, {3, 2, 2}, {3, 3, 0}, {3, 5, 2}, {3, -1, 0}, {3, -2, 2}, {3, -3, 1},
		{7, 8, 1}, {7, -1, 1}, {7, -2, 0}, {7, -3, 6}, {10, -1, 5}, {10, math.MinInt, 8}, {10, math.MaxInt, 7}, {1, -1, 0},
	} {
		s := noise(c.n, c.count)
		l := made(t, s, 1)
		deliver(t, l, c.n)
		checkCame(t, fmt.Sprintf("%+v", c), l, s, c.want, c.want+1)
	}
}

// Promise 19.2: a mask counts for nothing, if a piece is delivered; nor do number and mask, if all is synced, or resumed.
func TestWhatCountsForNothing(t *testing.T) {
	s := noise(2, 50)
	for _, n := range numbers() {
		for _, mask := range []uint64{0, 1, math.MaxUint32, 1 << 32, all} {
			l, same := made(t, s, 10), made(t, s, 10)
			for _, c := range []api.Step{{Kind: api.Deliver}, {Kind: api.Sync}, {Kind: api.Deliver, N: 1}, {Kind: api.Resume}, {Kind: api.Deliver, N: 1}, {Kind: api.Sync}} {
				step(t, same, c)
				c.Mask = mask
				if c.Kind != api.Deliver {
					c.N = n
				}
				step(t, l, c)
				if got, want := lookAll(t, l), lookAll(t, same); got != want {
					t.Errorf("%+v: it is %q; want %q", c, got, want)
				}
			}
		}
	}
}

// Promises 19.1, 19.2: once the sender resumes, it goes on from Offer on: not ahead of that, nor from Safe on.
func TestResume(t *testing.T) {
	for n := 1; n <= 40; n++ {
		s := noise(n, n)
		for size := 1; size <= 12; size++ {
			for offer := range n + 1 {
				l := made(t, s, size)
				name := fmt.Sprintf("%d by %d, %d there", n, size, offer)
				if offer > 0 {
					take(t, l, piece(castagnoli(s), n, 0, s[:offer]))
				}
				checkCounts(t, name, l, offer, 0, ups(n, size))
				step(t, l, api.Step{Kind: api.Resume})
				left := ups(n, size) - offer/size
				checkCounts(t, name+", resumed", l, offer, 0, left)
				for i := range left {
					deliver(t, l, i)
					checkLeft(t, name+", delivered", l, left)
				}
				checkText(t, name, l, s)
				if t.Failed() {
					return
				}
			}
		}
	}
}

// Promise 19.1: known counts: of a text that is all there, a last piece that is shorter is Left, one as long as the others isn't.
func TestKnownLeft(t *testing.T) {
	for _, c := range []struct{ n, size, offer, want int }{
		{11, 4, 0, 3}, {11, 4, 3, 3}, {11, 4, 4, 2}, {11, 4, 7, 2}, {11, 4, 8, 1}, {11, 4, 11, 1},
		{12, 4, 8, 1}, {12, 4, 11, 1}, {12, 4, 12, 0}, {3, 4, 0, 1}, {3, 4, 3, 1}, {4, 4, 4, 0}, {1, 1, 1, 0}, {1, 256, 1, 1}, {256, 256, 255, 1}, {256, 256, 256, 0},
	} {
		s := noise(c.n, c.n)
		l := made(t, s, c.size)
		if c.offer > 0 {
			take(t, l, piece(castagnoli(s), c.n, 0, s[:c.offer]))
		}
		step(t, l, api.Step{Kind: api.Resume})
		checkLeft(t, fmt.Sprintf("%+v", c), l, c.want)
	}
}

// Promise 19.2: the sender goes on from where it was, until it resumes: behind a crash, back, too; behind a gap from ahead of it.
func TestTheSenderGoesOnFromWhereItWas(t *testing.T) {
	s := noise(3, 22)
	l := made(t, s, 4)
	deliver(t, l, 0, 1)
	step(t, l, api.Step{Kind: api.Sync})
	checkCounts(t, "synced", l, 8, 8, 6)
	deliver(t, l, 2, 4)
	checkCounts(t, "a gap", l, 12, 8, 6)
	step(t, l, api.Step{Kind: api.Resume})
	checkCounts(t, "resumed", l, 12, 8, 3)
	step(t, l, api.Step{Kind: api.Crash})
	checkCounts(t, "crashed", l, 8, 8, 3)
	deliver(t, l, 0, 1, 2)
	checkCounts(t, "without what was lost", l, 8, 8, 3)
	step(t, l, api.Step{Kind: api.Resume})
	checkCounts(t, "resumed, back", l, 8, 8, 4)
	deliver(t, l, 0)
	checkCounts(t, "all", l, 22, 8, 4)
	checkText(t, "all", l, s)
	step(t, l, api.Step{Kind: api.Sync})
	step(t, l, api.Step{Kind: api.Resume})
	checkCounts(t, "all, resumed", l, 22, 22, 1)
	deliver(t, l, 5)
	checkText(t, "all, and the last one again", l, s)
}

// Promise 19.2: if none is Left, nothing comes, and nothing is wrong.
func TestNoneIsLeft(t *testing.T) {
	for _, size := range []int{1, 2, 4, 8} {
		s := noise(size, 8)
		l := made(t, s, size)
		for i := range l.Left() {
			deliver(t, l, i)
		}
		step(t, l, api.Step{Kind: api.Resume})
		checkLeft(t, "all there", l, 0)
		for _, n := range numbers() {
			for _, mask := range []uint64{0, 1, all} {
				checkNothing(t, "none is Left", l, api.Step{Kind: api.Deliver, N: n, Mask: mask})
				checkNothing(t, "none is Left", l, api.Step{Kind: api.Spoil, N: n, Mask: mask})
			}
		}
		step(t, l, api.Step{Kind: api.Crash})
		deliver(t, l, 0)
		checkCounts(t, "all lost, and none is Left", l, 0, 0, 0)
		checkNoText(t, "all lost, and none is Left", l, api.ErrNone)
	}
}

// Promises 19.1, 19.2, P1, P3: the receiver was given another thing by itself: the pieces aren't taken; and there may be less than none Left.
func TestAnotherThing(t *testing.T) {
	const s = "hello"
	for _, given := range []string{piece(7, 5, 0, "h"), piece(castagnoli(s), 6, 0, "hello"), piece(castagnoli(s), 4, 0, "hell")} {
		l := made(t, s, 2)
		take(t, l, given)
		for n := range 3 {
			checkNotStep(t, "another thing", l, api.Step{Kind: api.Deliver, N: n}, api.ErrState)
			checkNotStep(t, "another thing, nothing turned", l, api.Step{Kind: api.Spoil, N: n, Mask: 5 << 32}, api.ErrState)
			checkNotStep(t, "another thing, spoilt", l, api.Step{Kind: api.Spoil, N: n, Mask: 1}, api.ErrSpoilt)
		}
	}
	l := made(t, s, 2)
	take(t, l, piece(7, 4096, 0, noise(4, 256)))
	checkLeft(t, "more of another thing", l, 3)
	step(t, l, api.Step{Kind: api.Resume})
	checkLeft(t, "more of another thing, resumed", l, 3-256/2)
	for _, n := range numbers() {
		checkNothing(t, "less than none", l, api.Step{Kind: api.Deliver, N: n})
		checkNothing(t, "less than none", l, api.Step{Kind: api.Spoil, N: n, Mask: 1})
	}
	step(t, l, api.Step{Kind: api.Crash})
	step(t, l, api.Step{Kind: api.Resume})
	checkLeft(t, "all lost, resumed", l, 3)
	deliver(t, l, 0, 1, 2)
	checkText(t, "all lost, resumed", l, s)
}

// Promise 19.2: a piece that some bits of are turned isn't taken, whichever piece, bits and place these are.
func TestSpoil(t *testing.T) {
	s := noise(5, 30)
	for _, size := range []int{1, 7, 10, 30} {
		l := made(t, s, size)
		for n := -2; n < 4; n++ {
			for bit := range 32 {
				for _, place := range []uint64{0, 1, 7, 8, 60, 64, 65, 100, math.MaxUint32} {
					for _, w := range []uint64{1 << bit, math.MaxUint32 >> bit, 0x80000001 | 1<<bit} {
						checkNotStep(t, "new", l, api.Step{Kind: api.Spoil, N: n, Mask: place<<32 | w}, api.ErrSpoilt)
					}
				}
			}
		}
		checkNoText(t, "spoilt alone", l, api.ErrNone)
		for i := range l.Left() {
			deliver(t, l, i)
			checkNotStep(t, "it came", l, api.Step{Kind: api.Spoil, N: i, Mask: 1}, api.ErrSpoilt)
		}
		checkText(t, "all", l, s)
	}
}

// Promise 19.2: a piece of which nothing is turned comes as it is: the one that is delivered by the same number.
func TestSpoilOfNothing(t *testing.T) {
	s := noise(6, 29)
	for _, n := range numbers() {
		for _, place := range []uint64{0, 1, 1000, math.MaxUint32} {
			for _, from := range []int{0, 7, 27, 28} {
				l, same := made(t, s, 3), made(t, s, 3)
				for _, m := range []*link.Link{l, same} {
					if from > 0 {
						take(t, m, piece(castagnoli(s), len(s), 0, others(s)[:from]))
					}
					step(t, m, api.Step{Kind: api.Resume})
				}
				step(t, l, api.Step{Kind: api.Spoil, N: n, Mask: place << 32})
				deliver(t, same, n)
				for _, m := range []*link.Link{l, same} {
					fill(t, m, s)
				}
				if got, want := lookAll(t, l), lookAll(t, same); got != want {
					t.Errorf("number %d, from %d on: it is %q; want %q", n, from, got, want)
				}
			}
		}
	}
}

// Promise 19.2: Sync lets all that is there without a gap last, and a record that tells so.
func TestSync(t *testing.T) {
	s := noise(7, 75)
	l := made(t, s, 20)
	sync := api.Step{Kind: api.Sync}
	checkNothing(t, "nothing came", l, sync)
	deliver(t, l, 1)
	step(t, l, sync)
	checkCounts(t, "a gap", l, 0, 0, 4)
	checkSectors(t, "a gap", l, map[int]string{0: record(0, s, 0)})
	deliver(t, l, 0, 3)
	step(t, l, sync)
	checkCounts(t, "two pieces", l, 40, 40, 4)
	first := map[int]string{0: record(0, s, 0), 1: record(1, s, 40), 2: s[:32], 3: s[32:40]}
	checkSectors(t, "two pieces", l, first)
	if n := l.Crash(0); n != 40 {
		t.Errorf("Crash(0) = %d; want 40", n)
	}
	checkCounts(t, "crashed", l, 40, 40, 4)
	checkSectors(t, "crashed", l, first)
	deliver(t, l, 2, 3)
	step(t, l, sync)
	checkCounts(t, "all", l, 75, 75, 4)
	checkSectors(t, "all", l, map[int]string{0: record(2, s, 75), 1: record(1, s, 40), 2: s[:32], 3: s[32:64], 4: s[64:]})
	step(t, l, sync)
	checkSectors(t, "all again", l, map[int]string{0: record(2, s, 75), 1: record(3, s, 75), 2: s[:32], 3: s[32:64], 4: s[64:]})
	checkText(t, "all", l, s)
}

// half is a link over which a text of 60 bytes goes by 20: one piece is synced, another one came.
func half(t *testing.T, s string) *link.Link {
	t.Helper()
	l := made(t, s, 20)
	deliver(t, l, 0)
	step(t, l, api.Step{Kind: api.Sync})
	deliver(t, l, 1)
	return l
}

// Promise 19.2: what a crash does ahead, by its number modulo 4, and what of that lasts, by its mask.
func TestCrash(t *testing.T) {
	s := noise(8, 60)
	one, two := record(0, s, 20), record(1, s, 20)
	nothing := map[int]string{0: one, 2: s[:20]}
	for _, c := range []struct {
		name  string
		n     int
		mask  uint64
		offer int
		want  map[int]string
	}{
		{"nothing, all lasts", 0, all, 20, nothing},
		{"nothing, nothing lasts", 0, 0, 20, nothing},
		{"Save, nothing lasts", 1, 0, 20, nothing},
		{"Save, one sector lasts", 1, 1, 20, map[int]string{0: one, 2: s[:32]}},
		{"Save, the other one lasts", 1, 2, 20, map[int]string{0: one, 2: s[:20], 3: s[32:40]}},
		{"Save, all lasts", 1, all, 20, map[int]string{0: one, 2: s[:32], 3: s[32:40]}},
		{"Save, Flush, Mark, nothing lasts", 2, 0, 20, map[int]string{0: one, 2: s[:32], 3: s[32:40]}},
		{"Save, Flush, Mark, the record doesn't last", 2, all - 1, 20, map[int]string{0: one, 2: s[:32], 3: s[32:40]}},
		{"Save, Flush, Mark, the record lasts", 2, 1, 40, map[int]string{0: one, 1: record(1, s, 40), 2: s[:32], 3: s[32:40]}},
		{"Save, Flush, Mark, all lasts", 2, all, 40, map[int]string{0: one, 1: record(1, s, 40), 2: s[:32], 3: s[32:40]}},
		{"Mark, nothing lasts", 3, 0, 20, nothing},
		{"Mark, the record doesn't last", 3, all - 1, 20, nothing},
		{"Mark, the record lasts", 3, 1, 20, map[int]string{0: one, 1: two, 2: s[:20]}},
		{"Mark, all lasts", 3, all, 20, map[int]string{0: one, 1: two, 2: s[:20]}},
	} {
		// All of these leave the same: 2^64 is a multiple of 4.
		for _, n := range []int{c.n, c.n + 4, c.n + 8, c.n + 1<<32, c.n - 4, c.n - 8, math.MinInt + c.n, math.MaxInt - 3 + c.n} {
			l := half(t, s)
			step(t, l, api.Step{Kind: api.Crash, N: n, Mask: c.mask})
			name := fmt.Sprintf("%s, %d", c.name, n)
			checkCounts(t, name, l, c.offer, c.offer, 3)
			checkSectors(t, name, l, c.want)
			checkNoText(t, name, l, api.ErrMissing)
			deliver(t, l, 0, 1, 2)
			checkText(t, name+", all again", l, s)
		}
	}
}

// Promise 19.2: a crash of a new one, or of one to whom something came: nothing came, unless a record tells so.
func TestCrashWithoutARecord(t *testing.T) {
	const s = "hello"
	for n := -4; n < 8; n++ {
		for _, mask := range []uint64{0, 1, all} {
			crash := api.Step{Kind: api.Crash, N: n, Mask: mask}
			l := made(t, s, 2)
			checkNothing(t, "new", l, crash)
			deliver(t, l, 0)
			step(t, l, crash)
			name := fmt.Sprintf("%+v", crash)
			marked := n&3 > 1 && mask > 0
			offer, wrong := 0, api.ErrNone
			if marked {
				wrong = api.ErrMissing
			}
			if marked && n&3 == 2 {
				offer = 2
			}
			checkCounts(t, name, l, offer, offer, 3)
			checkNoText(t, name, l, wrong)
		}
	}
}

// Promises 19.2, P2, P3: no other kind is one, and nothing is done.
func TestThereIsNoSuchKind(t *testing.T) {
	s := noise(9, 60)
	for _, l := range []*link.Link{made(t, s, 20), half(t, s)} {
		for _, kind := range []int{math.MinInt, -1 << 32, -5, -1, 0, 6, 7, 8, 257, 1 << 32, 1<<32 + 1, math.MaxInt} {
			for _, n := range []int{math.MinInt, -1, 0, 1, 2, 3, math.MaxInt} {
				for _, mask := range []uint64{0, 1, all} {
					checkNotStep(t, "no such kind", l, api.Step{Kind: kind, N: n, Mask: mask}, api.ErrArg)
				}
			}
		}
	}
}

// script are so many steps by chance, some of which are none.
func script(c *chance, n int) []api.Step {
	var l []api.Step
	for range n {
		s := api.Step{Kind: []int{api.Deliver, api.Deliver, api.Deliver, api.Deliver, api.Sync, api.Crash, api.Resume, api.Spoil, 0, 6}[c.next(10)]}
		s.N = []int{c.next(50), c.next(8), c.next(8) - 4, int(c.mask())}[c.next(4)]
		s.Mask = []uint64{0, all, c.mask(), c.mask(), c.mask() << 32}[c.next(5)]
		l = append(l, s)
	}
	return l
}

// Promise 19.2: Run is Step of all, one behind the other: how many told no error; one that does doesn't end it.
func TestRun(t *testing.T) {
	const s = "hello world"
	l := made(t, s, 4)
	for _, c := range []struct {
		name               string
		steps              []api.Step
		want               int
		offer, safe, still int
	}{
		{"no list", nil, 0, 0, 0, 3},
		{"no steps", []api.Step{}, 0, 0, 0, 3},
		{"no kind", []api.Step{{}}, 0, 0, 0, 3},
		{"errors between, ahead and behind", []api.Step{{}, {Kind: api.Deliver}, {Kind: api.Spoil, Mask: 1}, {Kind: api.Deliver, N: 2}, {Kind: 6}}, 2, 4, 0, 3},
		{"one behind the other", []api.Step{{Kind: api.Sync}, {Kind: api.Deliver, N: 1}, {Kind: api.Crash}, {Kind: api.Resume}, {Kind: api.Deliver}}, 5, 8, 4, 2},
		{"nothing done counts", []api.Step{{Kind: api.Deliver, N: 1}, {Kind: api.Sync}, {Kind: api.Resume}, {Kind: api.Resume}}, 4, 11, 11, 1},
	} {
		if n := l.Run(c.steps); n != c.want {
			t.Errorf("%s: Run() = %d; want %d", c.name, n, c.want)
		}
		checkCounts(t, c.name, l, c.offer, c.safe, c.still)
	}
	checkText(t, "all", l, s)
}

// Promise 19.2: scripts by chance, against Step of each.
func TestRunIsStepOfAll(t *testing.T) {
	for i := range 300 {
		c := chance(i)
		s := noise(i, 1+c.next(300))
		size := 1 + c.next(60)
		l, same := made(t, s, size), made(t, s, size)
		for range 3 {
			steps := script(&c, c.next(40))
			kept, want := slices.Clone(steps), 0
			for _, s := range steps {
				if same.Step(s) == nil {
					want++
				}
			}
			if n := l.Run(steps); n != want {
				t.Errorf("Run(%+v) = %d; want %d", steps, n, want)
			}
			if got, want := lookAll(t, l), lookAll(t, same); got != want {
				t.Fatalf("link %d: it is %q; want %q", i, got, want)
			}
			if !slices.Equal(steps, kept) {
				t.Errorf("Run writes into its list: %+v; it was %+v", steps, kept)
			}
		}
	}
}

// spelled is a link, spelled out over a receiver of its own.
type spelled struct {
	r      *recv.Receiver
	pieces []string // all
	left   []string // those at the end
	size   int
}

// newSpelled is one over which nothing went.
func newSpelled(s string, size int) *spelled {
	p := &spelled{r: recv.New(), pieces: parts(s, size), size: size}
	p.left = p.pieces
	return p
}

// step does what 19.2 tells of a step.
func (p *spelled) step(s api.Step) error {
	switch s.Kind {
	case api.Deliver:
		if len(p.left) > 0 {
			return p.r.Take(p.left[modulo(s.N, len(p.left))])
		}
	case api.Spoil:
		if len(p.left) > 0 {
			return p.r.Take(turned(p.left[modulo(s.N, len(p.left))], s.Mask))
		}
	case api.Sync:
		p.r.Save()
		p.r.Flush()
		p.r.Mark()
		p.r.Flush()
	case api.Crash:
		ahead := [][]func(){{}, {p.r.Save}, {p.r.Save, p.r.Flush, p.r.Mark}, {p.r.Mark}}
		for _, do := range ahead[modulo(s.N, 4)] {
			do()
		}
		p.r.Crash(s.Mask)
	case api.Resume:
		p.left = p.pieces[p.r.Offer()/p.size:]
	default:
		return api.ErrArg
	}
	return nil
}

// Promises 19.1, 19.2, P3: steps by chance, and what the receiver is asked for by itself between them, against the promises spelled out.
func TestLinksAgainstThePromises(t *testing.T) {
	for i := range 300 {
		c := chance(i)
		s := noise(i, 1+c.next([]int{5, 40, 100, 900, 4096}[i%5]))
		size := 1 + c.next([]int{5, 40, 256}[i%3])
		l, p := made(t, s, size), newSpelled(s, size)
		for n, step := range script(&c, 100) {
			e, place := plain.Place(l.Step(step))
			if want := api.Tell(p.step(step)); e != want || place != -1 {
				t.Fatalf("link %d, step %d, %+v: error %d at %d; want error %d", i, n, step, e, place, want)
			}
			switch c.next(12) {
			case 0:
				l.Save()
				p.r.Save()
			case 1:
				l.Flush()
				p.r.Flush()
			case 2:
				l.Mark()
				p.r.Mark()
			}
			if got, want := lookAll(t, l), fmt.Sprint(len(p.left), " ")+look(t, p.r); got != want {
				t.Fatalf("link %d, step %d, %+v: it is %q; want %q", i, n, step, got, want)
			}
		}
	}
}

// Promises 19.1, 19.2 (and what is to be true of the whole, 6): what is told to be the text is; what lasts lasts, whatever comes or crashes; and once the sender goes on from there, and all that is left comes, it is there.
func TestNothingElseIsEverThere(t *testing.T) {
	for i := range 500 {
		c := chance(i)
		s := noise(i, 1+c.next(700))
		l := made(t, s, 1+c.next(80))
		lasts := 0
		for _, step := range script(&c, c.next(120)) {
			err := l.Step(step)
			if step.Kind == api.Spoil && uint32(step.Mask) != 0 && l.Left() > 0 && api.Tell(err) != api.ErrSpoilt {
				t.Fatalf("link %d: %+v is taken: %v", i, step, err)
			}
			if step.Kind == api.Sync {
				lasts = l.Offer()
			}
			if l.Safe() < lasts || l.Offer() < l.Safe() {
				t.Fatalf("link %d, %+v: %d are there, %d safe; %d lasted", i, step, l.Offer(), l.Safe(), lasts)
			}
			if text, err := l.Text(); err == nil && text != s {
				t.Fatalf("link %d tells %q; the text is %q", i, text, s)
			}
		}
		step(t, l, api.Step{Kind: api.Resume})
		for i := range l.Left() {
			deliver(t, l, i)
		}
		checkText(t, fmt.Sprint("link ", i), l, s)
	}
}

// Promise P1: whatever a link is told, each call ends, and the next one, too.
func TestWhateverItIsTold(t *testing.T) {
	l := made(t, "hello", 2)
	for i := range 60_000 {
		c := chance(i)
		if c.next(200) == 0 {
			if m, err := link.New(noise(i, c.next(5000)), c.next(300)-20); err == nil {
				l = m
			}
		}
		if c.next(20) == 0 {
			l.Take(piece(uint32(c.next(2)), 4096, l.Offer(), noise(i, 1+c.next(256))))
		}
		for _, s := range script(&c, c.next(3)) {
			if e := api.Tell(l.Step(s)); e < 0 {
				t.Fatalf("Step(%+v) = error %d", s, e)
			}
		}
		if text, err := l.Text(); (err == nil) != (len(text) > 0) || l.Safe() > l.Offer() {
			t.Fatalf("Text() = %q, %v; %d are there, %d safe", text, err, l.Offer(), l.Safe())
		}
	}
}

// Promise P4: links have nothing in common.
func TestLinksAreApart(t *testing.T) {
	a, b := made(t, "hello", 2), made(t, "hello", 2)
	before := lookAll(t, a)
	deliver(t, b, 0, 1, 2)
	step(t, b, api.Step{Kind: api.Sync})
	step(t, b, api.Step{Kind: api.Resume})
	if now := lookAll(t, a); now != before {
		t.Errorf("it was %q, and is %q now", before, now)
	}
	other := made(t, "other", 3)
	deliver(t, other, 0, 1)
	checkText(t, "another one", other, "other")
	checkText(t, "the one", b, "hello")
	checkCounts(t, "the one", b, 5, 5, 1)
}

// Promise P4: a text that is handed in isn't written into, nor kept.
func TestTextsAreNotKept(t *testing.T) {
	s := noise(10, 300)
	for _, size := range []int{1, 7, 256} {
		b := []byte(s)
		l := made(t, unsafe.String(&b[0], len(b)), size)
		if string(b) != s {
			t.Errorf("New writes into its text")
		}
		clear(b)
		for i := range l.Left() {
			deliver(t, l, i)
		}
		checkText(t, "changed then", l, s)
	}
}

// Promise P4: a list of steps isn't kept, nor what stands behind its length asked or written into.
func TestListsAreNotKept(t *testing.T) {
	l := made(t, "hello", 2)
	steps := []api.Step{{Kind: api.Deliver}, {Kind: api.Deliver, N: 1}, {Kind: api.Deliver, N: 2}}
	kept := slices.Clone(steps)
	if n := l.Run(steps[:1]); n != 1 {
		t.Errorf("Run() of one step = %d", n)
	}
	checkCounts(t, "one step", l, 2, 0, 3)
	if !slices.Equal(steps, kept) {
		t.Errorf("Run writes behind its list: %+v; it was %+v", steps, kept)
	}
	clear(steps)
	if n := l.Run(kept[1:2]); n != 1 {
		t.Errorf("Run() of one step = %d", n)
	}
	checkCounts(t, "one step more", l, 4, 0, 3)
}

// Promise P4: a piece that comes, as it is or turned, is the same piece when it comes again, whatever was done to what came out.
func TestPiecesStay(t *testing.T) {
	s := noise(11, 40)
	l := made(t, s, 20)
	for range 3 {
		for _, mask := range []uint64{1, all, 5 << 32, 9<<32 | 7} {
			l.Step(api.Step{Kind: api.Spoil, Mask: mask})
			l.Step(api.Step{Kind: api.Spoil, N: 1, Mask: mask})
		}
		deliver(t, l, 0, 1)
		text, err := l.Text()
		if text != s || err != nil {
			t.Fatalf("Text() = %q, %v; want %q", text, err, s)
		}
		unsafe.Slice(unsafe.StringData(text), len(text))[0] ^= 1
		checkText(t, "spoilt", l, s)
		step(t, l, api.Step{Kind: api.Crash})
		checkNoText(t, "crashed", l, api.ErrNone)
	}
}

// Promise P4: what is asked hangs on what was done alone, however often it is asked.
func TestAnswersAreTheSameAgain(t *testing.T) {
	l := half(t, noise(12, 60))
	step(t, l, api.Step{Kind: api.Resume})
	before := lookAll(t, l)
	for range 3 {
		if now := lookAll(t, l); now != before || l.Left() != 1 {
			t.Errorf("it was %q, and is %q now, with %d Left", before, now, l.Left())
		}
	}
}
