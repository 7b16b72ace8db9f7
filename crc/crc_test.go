package crc_test

import (
	"hash/crc32"
	"math"
	"strings"
	"testing"
	"unsafe"

	"packtrain/api"
	"packtrain/crc"
	"packtrain/plain"
)

// texts are bytes of all kinds, from none to many.
var texts = []string{
	"",
	"\x00",
	"\x01",
	"\x80",
	"\xff",
	"a",
	"ab",
	"\x00\x00\x00",
	"\x00\x00\x00\x00",
	"\xff\xff\xff\xff",
	"123456789",
	"\u00e4\n\x00 \xf0",
	strings.Repeat("\x00", 40),
	strings.Repeat("packtrain", 30),
	strings.Repeat("\xa5\x00\xff", api.MaxTotal),
}

// sums are texts' sums (the first one by the document, the next five by RFC 3720).
var sums = []struct {
	s   string
	sum uint32
}{
	{"123456789", 0xe3069283},
	{strings.Repeat("\x00", 32), 0x8a9136aa},
	{strings.Repeat("\xff", 32), 0x62a8ab43},
	{rising(32), 0x46dd794e},
	{backwards(rising(32)), 0x113fdb5c},
	{read, 0xd9963a56},
	{"", 0},
	{"a", 0xc1d04330},
	{"\x00", 0x527d5351},
	{"\xff", 0xff000000},
	{"\xff\xff\xff\xff", 0xffffffff},
}

// read is RFC 3720's read command.
const read = "\x01\xc0\x00\x00\x00\x00\x00\x00\x00\x00\x00\x00\x00\x00\x00\x00" +
	"\x14\x00\x00\x00\x00\x00\x04\x00\x00\x00\x00\x14\x00\x00\x00\x18" +
	"\x28\x00\x00\x00\x00\x00\x00\x00\x02\x00\x00\x00\x00\x00\x00\x00"

// rising are the bytes from 0 on.
func rising(n int) string {
	b := make([]byte, n)
	for i := range b {
		b[i] = byte(i)
	}
	return string(b)
}

// backwards is a text, the last byte first.
func backwards(s string) string {
	b := make([]byte, len(s))
	for i := range b {
		b[i] = s[len(s)-1-i]
	}
	return string(b)
}

// some are numbers of 32 bits: each bit, its neighbours, and others.
func some() []uint32 {
	out := []uint32{0, math.MaxUint32, 0x12345678, 0xe3069283, 0x82f63b78}
	for i := range 32 {
		out = append(out, 1<<i, 1<<i-1, ^uint32(1<<i), 0x9e3779b9*uint32(i))
	}
	return out
}

// other is the sum of bytes behind those of a sum, by another program.
func other(sum uint32, s string) uint32 {
	return crc32.Update(sum, crc32.MakeTable(crc32.Castagnoli), []byte(s))
}

// noughts is what a sum is carried to over n bytes of 0, one by one, nothing being turned.
func noughts(sum uint32, n int) uint32 {
	for range n {
		sum = ^other(^sum, "\x00")
	}
	return sum
}

// checkError asks for an error without a place.
func checkError(t *testing.T, name string, err error, want api.Errno) {
	t.Helper()
	e, place := plain.Place(err)
	if e != want || place != -1 {
		t.Errorf("%s: error %d at %d; want %d without a place", name, e, place, want)
	}
}

// checkOpen asks for an error of Open, and for nothing else.
func checkOpen(t *testing.T, name, s string, want api.Errno) {
	t.Helper()
	text, err := crc.Open(s)
	checkError(t, name, err, want)
	if text != "" {
		t.Errorf("%s: Open answers %.20q.. with an error", name, text)
	}
}

// checkJoin asks for a sum of two sums.
func checkJoin(t *testing.T, a, b uint32, n int, want uint32) {
	t.Helper()
	if sum := crc.Join(a, b, n); sum != want {
		t.Errorf("Join(%08x, %08x, %d) = %08x; want %08x", a, b, n, sum, want)
	}
}

// Promise 3.1: sums that are known.
func TestSumOfKnownTexts(t *testing.T) {
	for _, x := range sums {
		if sum := crc.Sum(x.s); sum != x.sum {
			t.Errorf("Sum(%.20q..) = %08x; want %08x", x.s, sum, x.sum)
		}
	}
}

// Promise 3.1: Sum is what another program says, of each byte at each place, and of long texts.
func TestSumIsCastagnolis(t *testing.T) {
	for c := range 256 {
		for n := range 6 {
			s := strings.Repeat("\x00", n) + string([]byte{byte(c)}) + strings.Repeat("x", 5-n)
			if sum := crc.Sum(s); sum != other(0, s) {
				t.Errorf("Sum(%q) = %08x; want %08x", s, sum, other(0, s))
			}
		}
	}
	for _, s := range texts {
		if sum := crc.Sum(s); sum != other(0, s) {
			t.Errorf("Sum(%.20q..) = %08x; want %08x", s, sum, other(0, s))
		}
	}
}

// Promise 3.1: More, wherever a text is cut.
func TestMoreGoesOn(t *testing.T) {
	s := strings.Repeat("\x00\xff packtrain", 20)
	want := crc.Sum(s)
	for i := range len(s) + 1 {
		if sum := crc.More(crc.Sum(s[:i]), s[i:]); sum != want {
			t.Errorf("More of %d bytes and the rest = %08x; want %08x", i, sum, want)
		}
	}
	sum := uint32(0)
	for i := range len(s) {
		sum = crc.More(sum, s[i:i+1])
	}
	if sum != want {
		t.Errorf("More byte by byte = %08x; want %08x", sum, want)
	}
}

// Promise 3.1: More of any sum, and nothing more is the sum.
func TestMoreOfAnySum(t *testing.T) {
	for _, sum := range some() {
		if crc.More(sum, "") != sum {
			t.Errorf("More(%08x, nothing) = %08x", sum, crc.More(sum, ""))
		}
		for _, s := range texts[:len(texts)-1] {
			if more := crc.More(sum, s); more != other(sum, s) {
				t.Errorf("More(%08x, %.20q..) = %08x; want %08x", sum, s, more, other(sum, s))
			}
		}
	}
}

// Promise 3.1: Join of texts' sums.
func TestJoinIsTheSumOfBoth(t *testing.T) {
	for _, a := range texts {
		for _, b := range texts {
			checkJoin(t, crc.Sum(a), crc.Sum(b), len(b), other(0, a+b))
		}
	}
	s := strings.Repeat("\x00\xff packtrain", 30)
	for i := range len(s) + 1 {
		checkJoin(t, crc.Sum(s[:i]), crc.Sum(s[i:]), len(s)-i, other(0, s))
	}
}

// Promise 3.1: Join of any two numbers: the first one is carried, the second one taken together with it.
func TestJoinOfAnySums(t *testing.T) {
	for _, n := range []int{0, 1, 2, 3, 4, 7, 8, 31, 256, 1000, 4095} {
		for i, a := range some() {
			carried := noughts(a, n)
			checkJoin(t, a, 0, n, carried)
			for _, b := range []uint32{a, uint32(i), 1 << (i % 32), math.MaxUint32} {
				checkJoin(t, a, b, n, carried^b)
			}
		}
	}
	for _, a := range some() {
		for _, b := range some() {
			checkJoin(t, a, b, 0, a^b)
			checkJoin(t, a, b, 5, noughts(a, 5)^b)
		}
	}
}

// Promises 3.1, P1: Join of as many bytes as there may be, and of more: it ends.
// The sums come round after 2^31 - 1 bytes of 0: x + 1, and a primitive polynomial of degree 31, are all that divides Castagnoli's.
func TestJoinOfVeryMany(t *testing.T) {
	const round = 1<<31 - 1
	for _, a := range some() {
		checkJoin(t, a, 0, round, a)
		checkJoin(t, a, 7, round+1, noughts(a, 1)^7)
		checkJoin(t, a, 7, round+100, noughts(a, 100)^7)
		checkJoin(t, a, 7, 1<<31, noughts(a, 1)^7)
		checkJoin(t, a, 7, 1<<32, noughts(a, 2)^7)
		checkJoin(t, a, 7, 1<<62, noughts(a, 1)^7)
		checkJoin(t, a, 7, math.MaxInt, noughts(a, 1)^7)
		checkJoin(t, a, 7, math.MaxInt-1, a^7)
	}
	for _, n := range []int{1 << 20, round - 1, 1 << 30, 0x5a5a5a5a5a5a5a5a} {
		half := crc.Join(1, 0, n/2)
		checkJoin(t, half, 9, n-n/2, crc.Join(1, 9, n))
	}
}

// Promise 3.1: Join is 0 of fewer bytes than none, whatever the sums are.
func TestJoinOfFewerThanNone(t *testing.T) {
	for _, n := range []int{-1, -2, -4, -1 << 31, math.MinInt + 1, math.MinInt} {
		for _, a := range some() {
			checkJoin(t, a, 2, n, 0)
			checkJoin(t, a, ^a, n, 0)
			checkJoin(t, 0, a, n, 0)
		}
	}
}

// Promise 3.2: what Seal writes, the lowest byte first.
func TestSealWrites(t *testing.T) {
	for _, x := range []struct{ s, want string }{
		{"", "\x00\x00\x00\x00"},
		{"123456789", "123456789\x83\x92\x06\xe3"},
		{"\xff", "\xff\x00\x00\x00\xff"},
		{"a", "a\x30\x43\xd0\xc1"},
	} {
		if s := crc.Seal(x.s); s != x.want {
			t.Errorf("Seal(%q) = %x; want %x", x.s, s, x.want)
		}
	}
}

// Promise 3.2: what is sealed is opened.
func TestOpenOpensWhatIsSealed(t *testing.T) {
	for _, s := range texts {
		sealed := crc.Seal(s)
		if len(sealed) != len(s)+4 || !strings.HasPrefix(sealed, s) {
			t.Errorf("Seal(%.20q..) = %.20q.. of %d bytes", s, sealed, len(sealed))
		}
		for range 3 {
			text, err := crc.Open(sealed)
			if text != s || err != nil {
				t.Errorf("Open of what %.20q.. is sealed to = %.20q.., %v", s, text, err)
			}
			s, sealed = sealed, crc.Seal(sealed)
		}
	}
}

// Promises 3.2, P2, P3: fewer than four bytes hold no sum, whichever they are.
func TestOpenMissesTheSum(t *testing.T) {
	for _, s := range []string{"", "\x00", "a", "\x00\x00", "\x00\x00\x00", "abc", "\xff\xff\xff"} {
		checkOpen(t, "fewer than four", s, api.ErrMissing)
	}
	checkOpen(t, "four", "abcd", api.ErrSpoilt)
}

// Promises 3.2, P2, P3: four bytes that aren't the sum of the rest.
func TestOpenTellsWhatIsSpoilt(t *testing.T) {
	for _, x := range []struct{ name, s string }{
		{"a sum of nothing", "\x01\x00\x00\x00"},
		{"no sum", "text"},
		{"noughts behind a text", "a\x00\x00\x00\x00"},
		{"the highest byte first", "123456789\xe3\x06\x92\x83"},
		{"the sum ahead", "\x83\x92\x06\xe3123456789"},
		{"a sum that isn't turned in the end", "123456789\x7c\x6d\xf9\x1c"},
		{"a byte more", crc.Seal("text") + "\x00"},
		{"a byte ahead", "\x00" + crc.Seal("text")},
		{"a byte fewer", crc.Seal("text")[:7]},
		{"the first byte gone", crc.Seal("text")[1:]},
		{"another one's sum", "text" + crc.Seal("tex")[3:]},
	} {
		checkOpen(t, x.name, x.s, api.ErrSpoilt)
	}
}

// Promise 3.2, and the second one of the whole: bits that are turned within any 32 that follow each other are seen.
func TestOpenSeesBitsTurnedCloseTogether(t *testing.T) {
	for _, s := range []string{"", "a", "text", "\x00\x00\x00\x00\x00\x00", strings.Repeat("\xff", 20)} {
		sealed := crc.Seal(s)
		for at := range 8 * len(sealed) {
			for _, mask := range some() {
				if spoilt := turned(sealed, at, mask); spoilt != sealed {
					checkOpen(t, "turned", spoilt, api.ErrSpoilt)
				}
			}
		}
	}
}

// turned is a text with the bits of a mask turned, from a bit on, as far as there are any.
func turned(s string, at int, mask uint32) string {
	b := []byte(s)
	for i := range 32 {
		if k := at + i; mask>>i&1 == 1 && k < 8*len(b) {
			b[k/8] ^= 1 << (k % 8)
		}
	}
	return string(b)
}

// Promise P4: what comes out is fresh memory.
func TestAnswersAreFresh(t *testing.T) {
	bytes := []byte(crc.Seal("text"))
	s := unsafe.String(&bytes[0], len(bytes))
	text, err := crc.Open(s)
	sealed := crc.Seal(s)
	want := strings.Clone(sealed)
	clear(bytes)
	if text != "text" || err != nil {
		t.Errorf("Open's text is %q now, %v", text, err)
	}
	if sealed != want {
		t.Errorf("Seal's text is %q now", sealed)
	}
}
