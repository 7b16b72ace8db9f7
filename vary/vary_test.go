package vary_test

import (
	"math"
	"math/bits"
	"strings"
	"testing"

	"packtrain/api"
	"packtrain/plain"
	"packtrain/vary"
)

// written are numbers, and how they are to be written.
var written = []struct {
	n uint64
	s string
}{
	{0, "\x00"},
	{1, "\x01"},
	{127, "\x7f"},
	{128, "\x80\x01"},
	{129, "\x81\x01"},
	{255, "\xff\x01"},
	{256, "\x80\x02"},
	{300, "\xac\x02"},
	{16383, "\xff\x7f"},
	{16384, "\x80\x80\x01"},
	{1<<21 - 1, "\xff\xff\x7f"},
	{1 << 21, "\x80\x80\x80\x01"},
	{1<<63 - 1, strings.Repeat("\xff", 8) + "\x7f"},
	{1 << 63, strings.Repeat("\x80", 9) + "\x01"},
	{math.MaxUint64, strings.Repeat("\xff", 9) + "\x01"},
}

// wrong are texts that no number's bytes begin, and what is told of them.
var wrong = []struct {
	name, s string
	want    api.Errno
}{
	{"nothing", "", api.ErrMissing},
	{"one byte that says more", "\x80", api.ErrMissing},
	{"one byte of all ones", "\xff", api.ErrMissing},
	{"two bytes that say more", "\x80\x80", api.ErrMissing},
	{"nine bytes that say more", strings.Repeat("\xff", 9), api.ErrMissing},
	{"a last nought", "\x80\x00", api.ErrForm},
	{"a last nought behind ones", "\xff\x00", api.ErrForm},
	{"a last nought, and more", "\x80\x00\x01", api.ErrForm},
	{"a third nought", "\x80\x80\x00", api.ErrForm},
	{"a ninth nought", strings.Repeat("\x80", 8) + "\x00", api.ErrForm},
	{"a tenth nought", strings.Repeat("\xff", 9) + "\x00", api.ErrForm},
	{"a tenth two", strings.Repeat("\x80", 9) + "\x02", api.ErrLimit},
	{"a tenth of the highest below 128", strings.Repeat("\xff", 9) + "\x7f", api.ErrLimit},
	{"a tenth that says more", strings.Repeat("\x80", 10), api.ErrLimit},
	{"a tenth that says more, with an end", strings.Repeat("\x80", 10) + "\x01", api.ErrLimit},
	{"a tenth one that says more", strings.Repeat("\x80", 9) + "\x81\x00", api.ErrLimit},
	{"many bytes that say more", strings.Repeat("\xff", 1000), api.ErrLimit},
	{"a nought ahead of a byte too many", "\x80\x00" + strings.Repeat("\xff", 20), api.ErrForm},
}

// checkGet asks for a number and its bytes.
func checkGet(t *testing.T, s string, want uint64, size int) {
	t.Helper()
	n, k, err := vary.Get(s)
	if n != want || k != size || err != nil {
		t.Errorf("Get(%x) = %d, %d, %v; want %d, %d", s, n, k, err, want, size)
	}
}

// checkError asks for an error without a place.
func checkError(t *testing.T, name string, err error, want api.Errno) {
	t.Helper()
	e, place := plain.Place(err)
	if e != want || place != -1 {
		t.Errorf("%s: error %d at %d; want %d without a place", name, e, place, want)
	}
}

// Promise 1.1: how numbers are written.
func TestPutWrites(t *testing.T) {
	for _, x := range written {
		if s := vary.Put(x.n); s != x.s {
			t.Errorf("Put(%d) = %x; want %x", x.n, s, x.s)
		}
	}
}

// Promise 1.1: as few bytes as may be, one at least, of seven bits each.
func TestPutNeedsNoByteMore(t *testing.T) {
	for i := range 64 {
		for _, n := range []uint64{1<<i - 1, 1 << i, 1<<i + 1} {
			want := max(1, (bits.Len64(n)+6)/7)
			if s := vary.Put(n); len(s) != want {
				t.Errorf("Put(%d) = %x; want %d bytes", n, s, want)
			}
		}
	}
}

// Promise 1.1: what is written is read, whatever stands behind.
func TestGetReadsWhatIsWritten(t *testing.T) {
	for _, x := range written {
		for _, rest := range []string{"", "\x00", "\x80", "\xff\xff", "rest"} {
			checkGet(t, x.s+rest, x.n, len(x.s))
		}
	}
	for i := range 64 {
		for _, n := range []uint64{1<<i - 1, 1 << i, 0xfedcba9876543210 >> i} {
			s := vary.Put(n)
			checkGet(t, s, n, len(s))
			checkGet(t, s+"\x01", n, len(s))
		}
	}
}

// Promise 1.1: no beginning of a number's bytes is a number's.
func TestGetMissesTheEnd(t *testing.T) {
	for _, x := range written {
		for i := range len(x.s) {
			n, k, err := vary.Get(x.s[:i])
			checkError(t, "a beginning", err, api.ErrMissing)
			if n != 0 || k != 0 {
				t.Errorf("Get(%x) = %d, %d with an error", x.s[:i], n, k)
			}
		}
	}
}

// Promises 1.1, P2, P3: what is wrong, byte by byte; all else is 0 then.
func TestGetTellsWhatIsWrong(t *testing.T) {
	for _, x := range wrong {
		n, k, err := vary.Get(x.s)
		checkError(t, x.name, err, x.want)
		if n != 0 || k != 0 {
			t.Errorf("%s: %d, %d with an error", x.name, n, k)
		}
	}
}

// Promise 1.1: each tenth byte.
func TestGetOfEachTenthByte(t *testing.T) {
	for c := range 256 {
		s := strings.Repeat("\x80", 9) + string([]byte{byte(c)})
		if c == 1 {
			checkGet(t, s, 1<<63, 10)
			continue
		}
		want := api.ErrLimit
		if c == 0 {
			want = api.ErrForm
		}
		_, _, err := vary.Get(s)
		checkError(t, "a tenth byte", err, want)
	}
}

// Promises 1.1, P5: of all texts of up to two bytes, just what Put writes is read.
func TestGetKnowsOneWayAlone(t *testing.T) {
	for c := range 1 << 16 {
		a, b := c%256, c/256
		s := string([]byte{byte(a), byte(b)})
		switch {
		case a < 128:
			checkGet(t, s, uint64(a), 1)
			checkGet(t, s[:1], uint64(a), 1)
		case b == 0:
			_, _, err := vary.Get(s)
			checkError(t, "a last nought", err, api.ErrForm)
		case b < 128:
			n := uint64(a - 128 + 128*b)
			checkGet(t, s, n, 2)
			if vary.Put(n) != s {
				t.Errorf("Put(%d) isn't %x", n, s)
			}
		default:
			_, _, err := vary.Get(s)
			checkError(t, "no end", err, api.ErrMissing)
		}
	}
}

// Promise 1.1: Int, up to most.
func TestIntUpToMost(t *testing.T) {
	for _, x := range []struct {
		s             string
		most, n, size int
	}{
		{"\x00", 0, 0, 1},
		{"\x05", 5, 5, 1},
		{"\x05", 6, 5, 1},
		{"\xac\x02rest", 300, 300, 2},
		{"\xac\x02", math.MaxInt, 300, 2},
		{vary.Put(math.MaxInt), math.MaxInt, math.MaxInt, 9},
	} {
		n, size, err := vary.Int(x.s, x.most)
		if n != x.n || size != x.size || err != nil {
			t.Errorf("Int(%x, %d) = %d, %d, %v; want %d, %d", x.s, x.most, n, size, err, x.n, x.size)
		}
	}
}

// Promises 1.1, P2, P3: Int, beyond most.
func TestIntBeyondMost(t *testing.T) {
	for _, x := range []struct {
		s    string
		most int
	}{
		{"\x05", 4},
		{"\x01", 0},
		{"\x00", -1},
		{"\x00", math.MinInt},
		{"\x05", -1},
		{"\xac\x02", 299},
		{vary.Put(math.MaxInt), math.MaxInt - 1},
		{vary.Put(math.MaxInt + 1), math.MaxInt},
		{vary.Put(math.MaxUint64), math.MaxInt},
		{vary.Put(math.MaxUint64), -1},
		{vary.Put(math.MaxUint64), 0},
	} {
		n, size, err := vary.Int(x.s, x.most)
		checkError(t, "Int", err, api.ErrRange)
		if n != 0 || size != 0 {
			t.Errorf("Int(%x, %d) = %d, %d with an error", x.s, x.most, n, size)
		}
	}
}

// Promises 1.1, P2, P3: Get's errors are Int's, whatever most is.
func TestIntTellsGetsErrors(t *testing.T) {
	for _, x := range wrong {
		for _, most := range []int{math.MinInt, -1, 0, 1, math.MaxInt} {
			n, size, err := vary.Int(x.s, most)
			checkError(t, x.name, err, x.want)
			if n != 0 || size != 0 {
				t.Errorf("%s: %d, %d with an error", x.name, n, size)
			}
		}
	}
}

// zigs are numbers and their Zigs.
var zigs = []struct {
	n   int
	zig uint64
}{
	{0, 0},
	{-1, 1},
	{1, 2},
	{-2, 3},
	{2, 4},
	{-64, 127},
	{64, 128},
	{api.MaxNumber, 1 << 51},
	{-api.MaxNumber, 1<<51 - 1},
	{math.MaxInt, math.MaxUint64 - 1},
	{math.MinInt + 1, math.MaxUint64 - 2},
	{math.MinInt, math.MaxUint64},
}

// Promise 1.2: Zig and Zag.
func TestZigAndZag(t *testing.T) {
	for _, x := range zigs {
		if z := vary.Zig(x.n); z != x.zig {
			t.Errorf("Zig(%d) = %d; want %d", x.n, z, x.zig)
		}
		if n := vary.Zag(x.zig); n != x.n {
			t.Errorf("Zag(%d) = %d; want %d", x.zig, n, x.n)
		}
	}
}

// Promise 1.2: each is the other way round.
func TestZagIsTheWayBack(t *testing.T) {
	for n := -1000; n < 1000; n++ {
		if vary.Zag(vary.Zig(n)) != n {
			t.Errorf("Zag(Zig(%d)) = %d", n, vary.Zag(vary.Zig(n)))
		}
	}
	for i := range 64 {
		n := uint64(0xfedcba9876543210) >> i
		if vary.Zig(vary.Zag(n)) != n {
			t.Errorf("Zig(Zag(%d)) = %d", n, vary.Zig(vary.Zag(n)))
		}
	}
}
