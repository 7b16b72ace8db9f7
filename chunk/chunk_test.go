package chunk_test

import (
	"encoding/binary"
	"encoding/hex"
	"fmt"
	"hash/crc32"
	"math"
	"strings"
	"testing"
	"unsafe"

	"packtrain/api"
	"packtrain/chunk"
	"packtrain/plain"
)

// castagnoli is the sum of 3.1.
func castagnoli(s string) uint32 {
	return crc32.Checksum([]byte(s), crc32.MakeTable(crc32.Castagnoli))
}

// low are the four bytes of a number, the lowest one first.
func low(n uint32) string { return string(binary.LittleEndian.AppendUint32(nil, n)) }

// number is a number as 1.1 has it.
func number(n int) string { return string(binary.AppendUvarint(nil, uint64(n))) }

// seal is a text with its sum, as 3.2 has it.
func seal(s string) string { return s + low(castagnoli(s)) }

// spelled is a piece as 16.2 has it, spelled out, whether it is right or not.
func spelled(c api.Chunk) string {
	return seal("C" + low(c.Name) + number(c.Total) + number(c.At) + c.Data)
}

// piece is a piece of a name that has four different bytes.
func piece(total, at int, data string) api.Chunk {
	return api.Chunk{Name: 0xfe028041, Total: total, At: at, Data: data}
}

// x is a text of so many bytes.
func x(n int) string { return strings.Repeat("x", n) }

// noise are so many bytes without a rule.
func noise(seed, n int) string {
	b := make([]byte, n)
	state := uint64(seed)
	for i := range b {
		state = state*6364136223846793005 + 1442695040888963407
		b[i] = byte(state >> 33)
	}
	return string(b)
}

// show is something as a text that isn't too long.
func show(thing any) string { return fmt.Sprintf("%.200s", fmt.Sprintf("%+v", thing)) }

// goods are pieces with nothing wrong.
func goods() []api.Chunk {
	l := []api.Chunk{
		{Name: 0, Total: 1, At: 0, Data: "\x00"},
		{Name: 1, Total: 1, At: 0, Data: "C"},
		{Name: math.MaxUint32, Total: 4096, At: 0, Data: "\xff"},
		{Name: 1 << 31, Total: 4096, At: 4095, Data: "\xff"},
		piece(256, 0, noise(1, 256)),
		piece(257, 0, noise(2, 256)),
		piece(257, 1, noise(3, 256)),
		piece(4096, 3840, noise(4, 256)),
		piece(4096, 3839, noise(5, 256)),
		piece(4096, 127, noise(6, 1)),
		piece(128, 127, "\x80"),
		piece(127, 126, "\x80"),
		piece(4000, 128, "\x00\x00"),
	}
	for i := range 32 {
		l = append(l, api.Chunk{Name: 1 << i, Total: 300 + i, At: i, Data: noise(i, 1+8*i)})
	}
	return l
}

// bad is a piece, and what is wrong with it.
type bad struct {
	name string
	c    api.Chunk
	want api.Errno
}

// bads are pieces that have one thing wrong, or several, the first one of which is told.
func bads() []bad {
	return []bad{
		{"nothing at all", api.Chunk{}, api.ErrRange},
		{"a name alone", api.Chunk{Name: 7}, api.ErrRange},
		{"no bytes in all", piece(0, 0, "x"), api.ErrRange},
		{"fewer than none in all", piece(-1, 0, "x"), api.ErrRange},
		{"as few as may be", piece(math.MinInt, 0, "x"), api.ErrRange},
		{"one too many in all", piece(4097, 0, "x"), api.ErrRange},
		{"as many as may be", piece(math.MaxInt, 0, "x"), api.ErrRange},
		{"ahead of all", piece(5, -1, "x"), api.ErrRange},
		{"far ahead of all", piece(5, math.MinInt, "x"), api.ErrRange},
		{"behind all", piece(5, 6, "x"), api.ErrRange},
		{"far behind all", piece(5, math.MaxInt, "x"), api.ErrRange},
		{"behind the greatest one", piece(4096, 4097, "x"), api.ErrRange},
		{"nothing of it", piece(5, 3, ""), api.ErrLimit},
		{"nothing at its end", piece(5, 5, ""), api.ErrLimit},
		{"one byte too many", piece(4096, 0, x(257)), api.ErrLimit},
		{"many too many", piece(4096, 0, x(4096)), api.ErrLimit},
		{"one there, two told", piece(1, 0, "xy"), api.ErrRange},
		{"two there, three told", piece(5, 3, "abc"), api.ErrRange},
		{"none there, one told", piece(5, 5, "x"), api.ErrRange},
		{"none there of many, one told", piece(4096, 4096, "x"), api.ErrRange},
		{"255 there, 256 told", piece(4096, 3841, x(256)), api.ErrRange},

		{"Total, ahead of no data", piece(0, 0, ""), api.ErrRange},
		{"Total, ahead of too much data", piece(4097, 0, x(257)), api.ErrRange},
		{"At, ahead of no data", piece(5, 6, ""), api.ErrRange},
		{"At below 0, ahead of too much data", piece(5, -1, x(257)), api.ErrRange},
		{"too much data, ahead of what isn't there", piece(5, 3, x(257)), api.ErrLimit},
	}
}

// wrong is what is wrong with a piece, as 16.1 tells it (0: nothing).
func wrong(c api.Chunk) api.Errno {
	in := func(n, least, most int) bool { return least <= n && n <= most }
	switch n := len(c.Data); {
	case !in(c.Total, 1, 4096) || !in(c.At, 0, c.Total):
		return api.ErrRange
	case n == 0 || n > 256:
		return api.ErrLimit
	case c.At+n > c.Total:
		return api.ErrRange
	}
	return api.OK
}

// checkRight asks what is wrong with a piece (0: nothing), and for no place.
func checkRight(t *testing.T, name string, c api.Chunk, want api.Errno) {
	t.Helper()
	if e, place := plain.Place(chunk.Right(c)); e != want || place != -1 {
		t.Errorf("%s: Right(%s) = error %d at %d; want error %d", name, show(c), e, place, want)
	}
}

// checkBoth asks for a piece as bytes, and for the piece that these are.
func checkBoth(t *testing.T, c api.Chunk, want string) {
	t.Helper()
	if s, err := chunk.Write(c); s != want || err != nil {
		t.Errorf("Write(%s) = %.100x, %v; want %.100x", show(c), s, err, want)
	}
	if r, err := chunk.Read(want); r != c || err != nil {
		t.Errorf("Read(%.100x) = %s, %v; want %s", want, show(r), err, show(c))
	}
}

// checkUnwritten asks for an error without a place, and for no bytes with it.
func checkUnwritten(t *testing.T, name string, c api.Chunk, want api.Errno) {
	t.Helper()
	s, err := chunk.Write(c)
	if e, place := plain.Place(err); s != "" || e != want || place != -1 {
		t.Errorf("%s: Write(%s) = %.100x, error %d at %d; want error %d", name, show(c), s, e, place, want)
	}
}

// checkUnread asks for an error without a place, and for no piece with it.
func checkUnread(t *testing.T, name, s string, want api.Errno) {
	t.Helper()
	c, err := chunk.Read(s)
	if e, place := plain.Place(err); c != (api.Chunk{}) || e != want || place != -1 {
		t.Errorf("%s: Read(%.100x) = %s, error %d at %d; want error %d", name, s, show(c), e, place, want)
	}
}

// checkUncut asks for an error without a place, and for no pieces with it.
func checkUncut(t *testing.T, name, s string, size int, want api.Errno) {
	t.Helper()
	l, err := chunk.Cut(s, size)
	if e, place := plain.Place(err); len(l) != 0 || e != want || place != -1 {
		t.Errorf("%s: Cut of %d bytes by %d = %d pieces, error %d at %d; want error %d", name, len(s), size, len(l), e, place, want)
	}
}

// checkCut asks for a text's pieces: one behind the other, all of it.
func checkCut(t *testing.T, s string, size int) {
	t.Helper()
	l, err := chunk.Cut(s, size)
	if n := (len(s) + size - 1) / size; len(l) != n || err != nil {
		t.Fatalf("Cut of %d bytes by %d = %d pieces, %v; want %d", len(s), size, len(l), err, n)
	}
	sum, rest := castagnoli(s), s
	for i, c := range l {
		want := api.Chunk{Name: sum, Total: len(s), At: i * size, Data: rest[:min(size, len(rest))]}
		if c != want {
			t.Fatalf("Cut of %d bytes by %d has %s as piece %d; want %s", len(s), size, show(c), i, show(want))
		}
		rest = rest[len(want.Data):]
	}
}

// Promise 16.1: Right of pieces that are right, and of each one that isn't, by what is told first.
func TestRight(t *testing.T) {
	for _, c := range goods() {
		checkRight(t, "right", c, api.OK)
	}
	for _, b := range bads() {
		checkRight(t, b.name, b.c, b.want)
	}
}

// bounds are numbers around all bounds.
func bounds() []int {
	return []int{
		math.MinInt, math.MinInt + 1, -4096, -257, -256, -1, 0, 1, 2, 3, 127, 128, 255, 256, 257, 258,
		3838, 3839, 3840, 3841, 4094, 4095, 4096, 4097, 1 << 32, 1<<32 + 1, math.MaxInt - 1, math.MaxInt,
	}
}

// Promises 16.1, 16.2: Right and Write of all numbers and lengths around the bounds, whatever the name is.
func TestAroundTheBounds(t *testing.T) {
	for _, n := range []int{0, 1, 2, 3, 127, 128, 255, 256, 257, 258, 512, 4095, 4096, 4097} {
		data := x(n)
		for _, total := range bounds() {
			for _, at := range bounds() {
				c := api.Chunk{Name: uint32(n), Total: total, At: at, Data: data}
				want := wrong(c)
				checkRight(t, "bounds", c, want)
				if want != api.OK {
					checkUnwritten(t, "bounds", c, want)
					continue
				}
				checkBoth(t, c, spelled(c))
			}
		}
	}
}

// Promise 16.1: pieces that may be looked at.
func TestKnownPieces(t *testing.T) {
	l, err := chunk.Cut("123456789", 4)
	want := []api.Chunk{
		{Name: 0xe3069283, Total: 9, At: 0, Data: "1234"},
		{Name: 0xe3069283, Total: 9, At: 4, Data: "5678"},
		{Name: 0xe3069283, Total: 9, At: 8, Data: "9"},
	}
	if err != nil || len(l) != len(want) || l[0] != want[0] || l[1] != want[1] || l[2] != want[2] {
		t.Errorf("Cut = %+v, %v; want %+v", l, err, want)
	}
}

// Promise 16.1: Cut of texts of all lengths around each size's multiples, by all sizes.
func TestCut(t *testing.T) {
	all := noise(7, 4096)
	for size := 1; size <= 256; size++ {
		for _, n := range []int{1, 2, size - 1, size, size + 1, 2*size - 1, 2 * size, 2*size + 1, 7*size + size/2, 4095, 4096} {
			if n > 0 {
				checkCut(t, all[:n], size)
			}
		}
	}
	for n := 1; n <= 4096; n++ {
		checkCut(t, all[4096-n:], 1+n%256)
	}
}

// Promise 16.1: each piece of Cut is right, and its bytes are read as it is.
func TestPiecesAreRight(t *testing.T) {
	for _, n := range []int{1, 2, 255, 256, 257, 1000, 4096} {
		for _, size := range []int{1, 3, 100, 255, 256} {
			l, _ := chunk.Cut(noise(n, n), size)
			for _, c := range l {
				checkRight(t, "cut", c, api.OK)
				checkBoth(t, c, spelled(c))
			}
		}
	}
}

// Promise 16.1: Cut's errors, what is wrong with the text ahead of what is with the size.
func TestUncut(t *testing.T) {
	checkUncut(t, "no bytes", "", 1, api.ErrLimit)
	checkUncut(t, "one too many", x(4097), 256, api.ErrLimit)
	checkUncut(t, "many too many", x(100_000), 256, api.ErrLimit)
	for _, size := range []int{0, -1, 257, 258, 4096, math.MinInt, math.MaxInt} {
		checkUncut(t, "size", "x", size, api.ErrRange)
		checkUncut(t, "size of most", x(4096), size, api.ErrRange)
		checkUncut(t, "no bytes, ahead of size", "", size, api.ErrLimit)
		checkUncut(t, "too many, ahead of size", x(4097), size, api.ErrLimit)
	}
}

// Promise 16.2: pieces byte by byte, both ways, with sums that were computed apart from this program.
func TestKnownBytes(t *testing.T) {
	for _, k := range []struct {
		c    api.Chunk
		want string
	}{
		{api.Chunk{Name: 0xe3069283, Total: 9, At: 4, Data: "5678"}, "43 839206e3 09 04 35363738 424803f7"},
		{api.Chunk{Name: 0x04030201, Total: 4096, At: 300, Data: "C"}, "43 01020304 8020 ac02 43 37d877ea"},
		{api.Chunk{Name: 0, Total: 1, At: 0, Data: "\x00"}, "43 00000000 01 00 00 af6c2de8"},
	} {
		want, err := hex.DecodeString(strings.ReplaceAll(k.want, " ", ""))
		if err != nil {
			t.Fatal(err)
		}
		checkBoth(t, k.c, string(want))
	}
}

// Promise 16.2: Write and Read of pieces that are right; there is just one way to write each.
func TestBothWays(t *testing.T) {
	seen := map[string]bool{}
	for _, c := range goods() {
		s := spelled(c)
		checkBoth(t, c, s)
		if seen[s] {
			t.Errorf("%x is the bytes of two pieces", s)
		}
		seen[s] = true
	}
	for total := 1; total <= 4096; total += 13 {
		for at := 0; at < total; at += 89 {
			c := api.Chunk{Name: uint32(total * at), Total: total, At: at, Data: noise(at, 1+(total+at)%min(256, total-at))}
			checkBoth(t, c, spelled(c))
		}
	}
}

// Promise 16.2: Write's errors are Right's.
func TestUnwritten(t *testing.T) {
	for _, b := range bads() {
		checkUnwritten(t, b.name, b.c, b.want)
	}
}

// Promise 16.2: Read of a piece that isn't right: Right's errors. (Of numbers below 0 or above MaxTotal there are no such bytes.)
func TestReadAsksRight(t *testing.T) {
	for _, b := range bads() {
		if min(b.c.Total, b.c.At) >= 0 && max(b.c.Total, b.c.At) <= 4096 {
			checkUnread(t, b.name, spelled(b.c), b.want)
		}
	}
	for total := range 12 {
		for at := range 12 {
			for n := range 12 {
				c := piece(total, at, x(n))
				if want := wrong(c); want != api.OK {
					checkUnread(t, "small", spelled(c), want)
				} else {
					checkBoth(t, c, spelled(c))
				}
			}
		}
	}
}

// Promise 16.2: bytes that can't be opened: crc's errors.
func TestShut(t *testing.T) {
	for _, s := range []string{"", "C", "CCC", "\x00\x00\x00"} {
		checkUnread(t, "no sum", s, api.ErrMissing)
	}
	for _, s := range []string{"CCCC", "\x01\x00\x00\x00", "Cabcdefghij", x(300), spelled(piece(5, 3, "ab")) + "x", "x" + spelled(piece(5, 3, "ab")), "C" + seal("C")} {
		checkUnread(t, "another sum", s, api.ErrSpoilt)
	}
}

// Promise 16.2: what begins with something else has no name, ahead of all that may be wrong behind it.
func TestNoName(t *testing.T) {
	whole := strings.TrimPrefix(spelled(piece(5, 3, "ab")), "C")
	whole = whole[:len(whole)-4]
	for i := range 256 {
		if i == 'C' {
			continue
		}
		first := string([]byte{byte(i)})
		for _, rest := range []string{"", "123", "1234", "C", whole, "1234" + x(300), "1234\x80\x00", strings.Repeat("\xff", 30)} {
			checkUnread(t, "another name", seal(first+rest), api.ErrName)
		}
	}
	checkUnread(t, "no bytes", seal(""), api.ErrName)
	checkUnread(t, "no bytes, spelled", "\x00\x00\x00\x00", api.ErrName)
}

// Promise 16.2: fewer bytes than a name has.
func TestShort(t *testing.T) {
	for _, s := range []string{"C", "C\x01", "C\x01\x02", "C\x01\x02\x03", "C\xff\xff\xff", "C\x00\x00\x00"} {
		checkUnread(t, "short", seal(s), api.ErrMissing)
	}
}

// badNumbers are bytes that are no number of up to 4096, and why.
func badNumbers() map[string]api.Errno {
	return map[string]api.Errno{
		"":                                 api.ErrMissing,
		"\x80":                             api.ErrMissing,
		"\xff\xff":                         api.ErrMissing,
		strings.Repeat("\xff", 9):          api.ErrMissing,
		"\x80\x00":                         api.ErrForm,
		"\x85\x80\x00":                     api.ErrForm,
		"\x80\x80\x00":                     api.ErrForm,
		strings.Repeat("\xff", 9) + "\x00": api.ErrForm,
		strings.Repeat("\xff", 9) + "\x02": api.ErrLimit,
		strings.Repeat("\xff", 9) + "\x80": api.ErrLimit,
		"\x81\x20":                         api.ErrRange, // 4097
		"\xff\x7f":                         api.ErrRange,
		"\x80\x80\x01":                     api.ErrRange,
		strings.Repeat("\xff", 9) + "\x01": api.ErrRange,
		strings.Repeat("\x80", 9) + "\x01": api.ErrRange,
		strings.Repeat("\x80", 4) + "\x10": api.ErrRange, // 2^32
	}
}

// Promise 16.2: what is wrong with Total, ahead of At; with At, ahead of the rest.
func TestBadNumbers(t *testing.T) {
	const named = "C\x41\x80\x02\xfe"
	for bytes, want := range badNumbers() {
		checkUnread(t, "Total ends", seal(named+bytes), want)
		checkUnread(t, "At ends", seal(named+"\x05"+bytes), want)
		// 0 in all is Right's to tell, behind both numbers.
		checkUnread(t, "At, ahead of no bytes in all", seal(named+"\x00"+bytes), want)
		// A number that the text ends in would go on in what stands behind it.
		if want == api.ErrMissing {
			continue
		}
		for other := range badNumbers() {
			checkUnread(t, "Total, ahead of At", seal(named+bytes+other), want)
		}
		checkUnread(t, "Total, ahead of a right rest", seal(named+bytes+"\x00a"), want)
		checkUnread(t, "At, ahead of a right rest", seal(named+"\x05"+bytes+"a"), want)
		checkUnread(t, "At, ahead of too much data", seal(named+"\x05"+bytes+x(257)), want)
	}
}

// Promise 16.2: a number of as many as there may be is read, one more isn't; Total's bound is At's, too.
func TestGreatestNumbers(t *testing.T) {
	const named = "C\x00\x00\x00\x00"
	c, err := chunk.Read(seal(named + "\x80\x20" + "\xff\x1f" + "a"))
	if want := (api.Chunk{Total: 4096, At: 4095, Data: "a"}); c != want || err != nil {
		t.Errorf("Read = %+v, %v; want %+v", c, err, want)
	}
	checkUnread(t, "At is Total, no data", seal(named+"\x80\x20"+"\x80\x20"), api.ErrLimit)
	checkUnread(t, "At is Total", seal(named+"\x80\x20"+"\x80\x20"+"a"), api.ErrRange)
	checkUnread(t, "At is above Total", seal(named+"\x05"+"\x06"), api.ErrRange)
	checkUnread(t, "At is above Total, no more than there may be", seal(named+"\x05"+"\x80\x20"), api.ErrRange)
}

// Promise 16.2, and of the whole 1: no beginning of a piece is one, nor is one with something behind.
func TestNoBeginningIsOne(t *testing.T) {
	for _, c := range goods() {
		s := spelled(c)
		for n := range len(s) {
			if r, err := chunk.Read(s[:n]); err == nil || r != (api.Chunk{}) {
				t.Fatalf("Read of the first %d bytes of %x = %+v, %v; want an error", n, s, r, err)
			}
		}
		for _, more := range []string{"\x00", "C", "\x00\x00\x00\x00", s} {
			checkUnread(t, "more", s+more, api.ErrSpoilt)
		}
	}
}

// Promise 16.2, and of the whole 2: bits that are turned close together are seen.
func TestTurnedBits(t *testing.T) {
	for _, c := range goods()[:20] {
		s := spelled(c)
		for at := range 8*len(s) - 31 {
			for _, turned := range []uint32{1, 3, 1<<31 | 1, 0xffffffff, 0xa5000001} {
				b := []byte(s)
				for i := range 32 {
					b[(at+i)/8] ^= byte(turned>>i&1) << ((at + i) % 8)
				}
				checkUnread(t, "turned", string(b), api.ErrSpoilt)
			}
		}
	}
}

// Promise P1: whatever it is given, each call ends; what is read is written so again.
func TestWhateverItIsGiven(t *testing.T) {
	parts := []string{"C", "\x00", "\x01", "\x05", "\x80", "\xff", "\x80\x20", "abcd", x(256)}
	for i := range 60_000 {
		s, state := "", i
		for range 2 + i%7 {
			state = state*1103515245 + 12345
			s += parts[state>>16&0x7fff%len(parts)]
		}
		if i%2 == 0 {
			s = "Cname" + s
		}
		if i%16 > 0 {
			s = seal(s)
		}
		c, err := chunk.Read(s)
		if err != nil {
			if c != (api.Chunk{}) || api.Tell(err) < 1 {
				t.Fatalf("Read(%x) = %+v, %v", s, c, err)
			}
			continue
		}
		if again, err := chunk.Write(c); again != s || err != nil || wrong(c) != api.OK {
			t.Fatalf("Read(%x) = %+v, which is written %x, %v", s, c, again, err)
		}
	}
	for _, size := range bounds() {
		for _, n := range []int{0, 1, 4096, 4097} {
			if l, err := chunk.Cut(x(n), size); (len(l) == 0) != (err != nil) {
				t.Errorf("Cut of %d bytes by %d = %d pieces, %v", n, size, len(l), err)
			}
		}
	}
}

// inside is whether a text lies in the memory of bytes.
func inside(s string, b []byte) bool {
	at := uintptr(unsafe.Pointer(unsafe.StringData(s)))
	first := uintptr(unsafe.Pointer(unsafe.SliceData(b)))
	return len(s) > 0 && at >= first && at < first+uintptr(cap(b))
}

// Promise P4: what comes out lies in memory of its own: what was given may change then.
func TestFreshMemory(t *testing.T) {
	text := noise(9, 1000)
	for _, size := range []int{1, 100, 256} {
		b := []byte(text)
		l, _ := chunk.Cut(unsafe.String(unsafe.SliceData(b), len(b)), size)
		clear(b)
		all := ""
		for _, c := range l {
			all += c.Data
			if inside(c.Data, b) {
				t.Fatalf("the piece at %d lies in the text", c.At)
			}
		}
		if all != text {
			t.Errorf("the pieces of %d bytes aren't the text any more", size)
		}
	}
	one := []byte("x")
	if l, _ := chunk.Cut(unsafe.String(&one[0], 1), 1); len(l) != 1 || inside(l[0].Data, one) {
		t.Errorf("the one piece lies in the text")
	}
	for _, c := range goods() {
		b := []byte(spelled(c))
		r, _ := chunk.Read(unsafe.String(unsafe.SliceData(b), len(b)))
		if inside(r.Data, b) {
			t.Errorf("the data of %+v lies in its bytes", c)
		}
		clear(b)
		if r != c {
			t.Errorf("the piece is %+v now; want %+v", r, c)
		}
		data := []byte(c.Data)
		s, _ := chunk.Write(api.Chunk{Name: c.Name, Total: c.Total, At: c.At, Data: unsafe.String(unsafe.SliceData(data), len(data))})
		clear(data)
		if s != spelled(c) {
			t.Errorf("the bytes are %x now; want %x", s, spelled(c))
		}
	}
}

// Promise P4: each piece of Cut has memory of its own, and another list comes each time.
func TestPiecesAreApart(t *testing.T) {
	text := noise(9, 600)
	l, _ := chunk.Cut(text, 200)
	again, _ := chunk.Cut(text, 200)
	clear(l)
	for i, c := range again {
		if c.Data != text[200*i:200*i+200] {
			t.Errorf("piece %d is %+v now", i, c)
		}
	}
	for i, c := range again {
		for _, other := range again[i+1:] {
			if inside(other.Data, unsafe.Slice(unsafe.StringData(c.Data), len(c.Data))) {
				t.Errorf("the piece at %d lies in the one at %d", other.At, c.At)
			}
		}
	}
}

// Promise P4: what a call answers hangs on its arguments alone: behind an error, too.
func TestNothingIsKept(t *testing.T) {
	c := piece(300, 200, noise(1, 100))
	for _, b := range bads() {
		checkRight(t, b.name, b.c, b.want)
		checkUnwritten(t, b.name, b.c, b.want)
		checkUnread(t, "name", seal("D"), api.ErrName)
		checkUncut(t, "size", "x", 0, api.ErrRange)
		checkRight(t, "right", c, api.OK)
		checkBoth(t, c, spelled(c))
		checkCut(t, "hello", 2)
	}
}
