package frame_test

import (
	"encoding/binary"
	"encoding/hex"
	"fmt"
	"hash/crc32"
	"math"
	"reflect"
	"slices"
	"strings"
	"testing"
	"unsafe"

	"packtrain/api"
	"packtrain/batch"
	"packtrain/body"
	"packtrain/frame"
	"packtrain/lz"
	"packtrain/match"
	"packtrain/plain"
)

// How a body stands in a frame.
const (
	whole    = 0
	squeezed = 1
)

// known is a vector of one entry.
func known(replica, time int) []api.Entry { return []api.Entry{{Replica: replica, Time: time}} }

// put is a Put of replica 3.
func put(time int, key, value string) api.Write {
	return api.Write{Id: api.Id{Time: time, Replica: 3}, Kind: api.Put, Key: key, Value: value}
}

// puts is a batch of all that replica 3 wrote up to time 99: of these writes.
func puts(l ...api.Write) api.Batch { return api.Batch{Have: known(3, 99), Writes: l} }

// single is a batch of one write.
func single(value string) api.Batch {
	return api.Batch{Have: known(3, 7), Writes: []api.Write{put(7, "k", value)}}
}

// noise is a text of so many bytes without a rule, of no more values than are told.
func noise(seed, n, values int) string {
	b := make([]byte, n)
	state := uint64(seed)
	for i := range b {
		state = state*6364136223846793005 + 1442695040888963407
		b[i] = byte(int(state>>33) % values)
	}
	return string(b)
}

// big is a batch whose body has so many bytes (20,000, or a few less or more), of texts of no more values than are told.
func big(n, values int) api.Batch {
	b := puts()
	left := n - 19987
	for i := range api.MaxWrites {
		more := min(left, 10)
		left -= more
		b.Writes = append(b.Writes, put(1+i, fmt.Sprint(10+i)+noise(i, 34, values), noise(i+60, 290+more, values)))
	}
	return b
}

// mixed are so many writes of three replicas, of all kinds.
func mixed(n int) api.Batch {
	b := api.Batch{From: known(1, 2), Have: []api.Entry{{Replica: 0, Time: 99}, {Replica: 1, Time: 99}, {Replica: 5, Time: 1 << 40}}}
	for i := range n {
		w := api.Write{Id: api.Id{Time: 3 + i, Replica: []int{0, 1, 5}[i%3]}, Kind: 1 + i%4, Key: []string{"a", "key", "", "\xff\x00"}[i/2%4]}
		switch w.Kind {
		case api.Put:
			w.Value = strings.Repeat("value", i%9)
		case api.Add:
			w.N = (i - 20) << i
			w.N = max(min(w.N, api.MaxNumber), -api.MaxNumber)
		case api.Insert:
			w.Value, w.N = noise(i, i, 256), i*16
		}
		b.Writes = append(b.Writes, w)
	}
	return b
}

// goods are batches with nothing wrong.
func goods() []api.Batch {
	l := []api.Batch{
		{},
		{Have: known(3, 7)},
		{From: known(3, 7), Have: known(3, 7)},
		puts(),
		puts(put(1, "", ""), put(2, "", ""), put(99, "", "")),
		puts(put(1, "k", strings.Repeat("v", 300)), put(2, strings.Repeat("k", 40), strings.Repeat("v", 300))),
		puts(put(1, "k", noise(1, 300, 256)), put(2, noise(2, 40, 256), noise(3, 300, 256)), put(3, "k", noise(1, 300, 256))),
	}
	for n := range 70 {
		l = append(l, single(noise(n, n, 2)), single(noise(n, 300-n, 256)), single(strings.Repeat("ab", n)))
	}
	for n := 1; n <= api.MaxWrites; n++ {
		l = append(l, mixed(n))
	}
	return l
}

// number is a number as 1.1 has it.
func number(n uint64) string { return string(binary.AppendUvarint(nil, n)) }

// size is how many bytes a text has, as 1.1 has it.
func size(s string) string { return number(uint64(len(s))) }

// seal is a text with its sum, as 3.2 has it.
func seal(s string) string {
	sum := crc32.Checksum([]byte(s), crc32.MakeTable(crc32.Castagnoli))
	return s + string(binary.LittleEndian.AppendUint32(nil, sum))
}

// framed is a frame of a version, with something inside.
func framed(version byte, inside string) string {
	return seal("PT" + string([]byte{version}) + inside)
}

// stood is a frame of version 3 whose body stands there as it is told, which may be wrong.
func stood(way byte, bytes, rest string) string {
	return framed(3, string([]byte{way})+bytes+rest)
}

// bodyOf is a batch's body, as 11.1 has it.
func bodyOf(t *testing.T, b api.Batch) string {
	t.Helper()
	s, err := body.Write(b)
	if err != nil {
		t.Fatalf("body.Write(%s): %v", show(b), err)
	}
	return s
}

// squeeze is a text in fewer bytes, as 5.2 has it.
func squeeze(t *testing.T, s string) string {
	t.Helper()
	short, err := lz.Squeeze(s)
	if err != nil {
		t.Fatalf("lz.Squeeze(%.200x): %v", s, err)
	}
	return short
}

// spelled is a body's frame as 12.1 has it, spelled out, and how the body stands there.
func spelled(t *testing.T, all string) (string, byte) {
	t.Helper()
	if short := squeeze(t, all); len(short) < len(all) {
		return stood(squeezed, size(all), short), squeezed
	}
	return stood(whole, size(all), all), whole
}

// spelledOf is a batch's frame.
func spelledOf(t *testing.T, b api.Batch) string {
	t.Helper()
	s, _ := spelled(t, bodyOf(t, b))
	return s
}

// show is a thing as a text that isn't too long.
func show(thing any) string { return fmt.Sprintf("%.200s", fmt.Sprintf("%+v", thing)) }

// bin is the text of hexadecimal digits.
func bin(t *testing.T, s string) string {
	t.Helper()
	b, err := hex.DecodeString(strings.ReplaceAll(s, " ", ""))
	if err != nil {
		t.Fatal(err)
	}
	return string(b)
}

// checkWrite asks for a batch's frame.
func checkWrite(t *testing.T, b api.Batch, want string) {
	t.Helper()
	if s, err := frame.Write(b); s != want || err != nil {
		t.Errorf("Write(%s) = %.200x, %v; want %.200x", show(b), s, err, want)
	}
}

// checkUnwritten asks for an error, its place (-1: none), and no bytes with it.
func checkUnwritten(t *testing.T, name string, b api.Batch, want api.Errno, place int) {
	t.Helper()
	s, err := frame.Write(b)
	if e, p := plain.Place(err); s != "" || e != want || p != place {
		t.Errorf("%s: Write(%s) = %.200x, error %d at %d; want error %d at %d", name, show(b), s, e, p, want, place)
	}
}

// checkOpen asks for a frame's version, and what it has inside.
func checkOpen(t *testing.T, s string, version int, inside string) {
	t.Helper()
	if n, err := frame.Version(s); n != version || err != nil {
		t.Errorf("Version(%.200x) = %d, %v; want %d", s, n, err, version)
	}
	if in, err := frame.Inside(s); in != inside || err != nil {
		t.Errorf("Inside(%.200x) = %.200x, %v; want %.200x", s, in, err, inside)
	}
}

// checkShut asks each function for an error without a place, and nothing with it.
func checkShut(t *testing.T, name, s string, want api.Errno) {
	t.Helper()
	n, err := frame.Version(s)
	if e, p := plain.Place(err); n != 0 || e != want || p != -1 {
		t.Errorf("%s: Version(%.200x) = %d, error %d at %d; want error %d", name, s, n, e, p, want)
	}
	in, err := frame.Inside(s)
	if e, p := plain.Place(err); in != "" || e != want || p != -1 {
		t.Errorf("%s: Inside(%.200x) = %.200x, error %d at %d; want error %d", name, s, in, e, p, want)
	}
	checkUnread(t, name, s, want, -1)
}

// checkRead asks for the batch in a frame.
func checkRead(t *testing.T, s string, want api.Batch) {
	t.Helper()
	if b, err := frame.Read(s); !batch.Same(b, want) || err != nil {
		t.Errorf("Read(%.200x) = %s, %v; want %s", s, show(b), err, show(want))
	}
}

// checkUnread asks for an error, its place (-1: none), and nothing of a batch with it.
func checkUnread(t *testing.T, name, s string, want api.Errno, place int) {
	t.Helper()
	b, err := frame.Read(s)
	if e, p := plain.Place(err); !batch.Same(b, api.Batch{}) || e != want || p != place {
		t.Errorf("%s: Read(%.200x) = %s, error %d at %d; want error %d at %d", name, s, show(b), e, p, want, place)
	}
}

// Promises 12.1, 12.2: frames byte by byte, both ways.
func TestKnownFrames(t *testing.T) {
	for _, c := range []struct {
		b      api.Batch
		inside string
		sum    string
	}{
		{api.Batch{}, "00 04 00000000", "f24907f8"},
		{api.Batch{From: []api.Entry{}, Have: []api.Entry{}, Writes: []api.Write{}}, "00 04 00000000", "f24907f8"},
		{single("v"), "00 0f 000103000701016b01010700000176", "d65ff7ce"},
		// Three bytes of the value are its own, and nine from three back: twenty bytes rather than 26.
		{single("abcabcabcabc"), "01 1a 22 000103000701016b01010700000c616263 0b 02", "36c5c7f0"},
	} {
		s := bin(t, "505403"+c.inside+c.sum)
		checkWrite(t, c.b, s)
		checkOpen(t, s, 3, bin(t, c.inside))
		checkRead(t, s, c.b)
	}
}

// Promises 12.1, 12.2, P5: what is written is as the promise spells it out, opens, and is read.
func TestGoodsAreWrittenAndRead(t *testing.T) {
	seen := [2]int{}
	for _, b := range goods() {
		s, way := spelled(t, bodyOf(t, b))
		seen[way]++
		checkWrite(t, b, s)
		checkOpen(t, s, 3, s[3:len(s)-4])
		checkRead(t, s, b)
	}
	if seen[whole] < 50 || seen[squeezed] < 50 {
		t.Errorf("%d stand as they are, %d are squeezed", seen[whole], seen[squeezed])
	}
}

// Promise 12.1: a body is squeezed just if it has fewer bytes then, not if it has as many.
func TestSqueezedJustIfFewer(t *testing.T) {
	for _, c := range []struct {
		value string
		less  int // how many bytes fewer it has if it is squeezed
	}{
		{"", -1},
		{"abcabc", -1},
		{"abcabcaxyz", 0},
		{"abcabcabxyz", 1},
		{"abcabca", 1},
		{"abcabcab", 2},
		{"abcabcaxyzxyzxxyz", 1},
		{noise(1, 60, 256), -2},
		{noise(1, 300, 256), -2},
	} {
		b := single(c.value)
		all := bodyOf(t, b)
		short := squeeze(t, all)
		if len(all)-len(short) != c.less {
			t.Errorf("%q: %d bytes are squeezed into %d; want %d fewer", c.value, len(all), len(short), c.less)
		}
		s, other := stood(whole, size(all), all), stood(squeezed, size(all), short)
		if c.less > 0 {
			s, other = other, s
		}
		checkWrite(t, b, s)
		checkRead(t, s, b)
		checkUnread(t, c.value, other, api.ErrFalse, -1)
	}
}

// Promises 12.1, 12.2: bodies of up to 20,000 bytes are written and read, however many they have in the frame; of more the error has no place.
func TestTheGreatestBodies(t *testing.T) {
	for _, values := range []int{1, 2, 256} {
		for _, n := range []int{19999, 20000} {
			b := big(n, values)
			all := bodyOf(t, b)
			s, way := spelled(t, all)
			if len(all) != n || way == whole && values == 1 || way == squeezed && values == 256 {
				t.Fatalf("%d bytes rather than %d, in way %d", len(all), n, way)
			}
			checkWrite(t, b, s)
			checkOpen(t, s, 3, s[3:len(s)-4])
			checkRead(t, s, b)
		}
		checkUnwritten(t, "20,001 bytes", big(20001, values), api.ErrLimit, -1)
		checkUnwritten(t, "20,500 bytes", big(20500, values), api.ErrLimit, -1)
	}
}

// badBatch is a batch with something wrong, and with which write (-1: with none).
type badBatch struct {
	name  string
	b     api.Batch
	want  api.Errno
	place int
}

// badBatches are batches with something wrong.
func badBatches() []badBatch {
	good := put(7, "k", "v")
	back := []api.Entry{{Replica: 3, Time: 9}, {Replica: 1, Time: 9}}
	return []badBatch{
		{"From is not in order", api.Batch{From: back, Have: known(3, 9)}, api.ErrOrder, -1},
		{"Have is not in order", api.Batch{Have: back, Writes: []api.Write{good}}, api.ErrOrder, -1},
		{"Have of a time above the most", api.Batch{Have: known(3, 1<<40+1), Writes: []api.Write{good}}, api.ErrRange, -1},
		{"Have of more than 16", api.Batch{Have: make([]api.Entry, 17)}, api.ErrLimit, -1},
		{"Have doesn't cover From", api.Batch{From: known(3, 8), Have: known(3, 7), Writes: []api.Write{good}}, api.ErrFalse, -1},
		{"more than 60 writes", puts(make([]api.Write, 61)...), api.ErrLimit, -1},
		{"very many writes", puts(make([]api.Write, 1<<17)...), api.ErrLimit, -1},
		{"no kind", puts(good, api.Write{}), api.ErrArg, 1},
		{"a time of 0", puts(put(0, "k", "v")), api.ErrRange, 0},
		{"a key above the most", puts(good, put(8, strings.Repeat("k", 41), "v")), api.ErrLimit, 1},
		{"a value above the most", puts(put(7, "k", strings.Repeat("v", 301))), api.ErrLimit, 0},
		{"a Put with a number", puts(good, api.Write{Id: api.Id{Time: 8, Replica: 3}, Kind: api.Put, N: 1}), api.ErrForm, 1},
		{"twice", puts(good, good), api.ErrOrder, 1},
		{"behind Have", puts(good, put(100, "k", "v")), api.ErrState, 1},
		{"as far as From", api.Batch{From: known(3, 7), Have: known(3, 9), Writes: []api.Write{good}}, api.ErrState, 0},
		{"a body above the most", big(20001, 256), api.ErrLimit, -1},
	}
}

// Promises 12.1, P1, P2, P3: what is wrong with a batch is told as body tells it, and nothing is written.
func TestWriteTellsWhatIsWrong(t *testing.T) {
	for _, c := range badBatches() {
		checkUnwritten(t, c.name, c.b, c.want, c.place)
	}
}

// Promise 12.1: each of the three versions opens, whatever is inside: one byte, or many.
func TestAnyVersionOpens(t *testing.T) {
	for version := byte(1); version <= 3; version++ {
		for _, inside := range []string{"\x00", "\x01", "\xff", "PT", "PT\x03", "\x00\x00\x00\x00", noise(1, 300, 256), strings.Repeat("x", 30000)} {
			checkOpen(t, framed(version, inside), int(version), inside)
		}
		for n := 1; n < 300; n++ {
			inside := noise(n, n, 256)
			checkOpen(t, framed(version, inside), int(version), inside)
		}
	}
}

// Promises 12.1, 12.2, P3: fewer than eight bytes are missing some, whatever they are.
func TestFewBytesAreMissingSome(t *testing.T) {
	frames := []string{"", "P", "PT", "PT\x03", "PT\x03\x00", "XT", "PT\x09", framed(1, ""), framed(2, ""), framed(3, ""), framed(9, ""), seal(""), seal("P"), seal("X"), seal("XTY")}
	for n := range 8 {
		frames = append(frames, noise(n, n, 256), strings.Repeat("\x00", n), framed(3, "\x00\x04\x00\x00\x00\x00")[:n])
	}
	for _, s := range frames {
		checkShut(t, "few bytes", s, api.ErrMissing)
	}
}

// Promises 12.1, 12.2, P3: the name is asked ahead of the version, and that ahead of the sum.
func TestNamesAndVersions(t *testing.T) {
	good := "\x00\x04\x00\x00\x00\x00"
	for _, name := range []string{"XT", "PX", "pt", "TP", "pT", "Pt", "\x00\x00", "PP", "TT", " P"} {
		for _, version := range []string{"\x00", "\x01", "\x02", "\x03", "\x04"} {
			checkShut(t, "another name", seal(name+version+good), api.ErrName)
			checkShut(t, "another name, spoilt", name+version+good+"sums", api.ErrName)
			checkShut(t, "another name, one byte", seal(name+version+"\x00"), api.ErrName)
		}
	}
	for version := range 256 {
		if version >= 1 && version <= 3 {
			continue
		}
		head := "PT" + string([]byte{byte(version)})
		checkShut(t, "another version", seal(head+good), api.ErrNone)
		checkShut(t, "another version, spoilt", head+good+"sums", api.ErrNone)
		checkShut(t, "another version, one byte", seal(head+"\x00"), api.ErrNone)
	}
	for _, s := range []string{"\x03PT" + good, "P\x03T" + good, "\x00PT\x03" + good} {
		checkShut(t, "not at the beginning", seal(s), api.ErrName)
	}
}

// Promises 12.1, 12.2: what is spoilt is told, of each version, ahead of all that is inside.
func TestWhatIsSpoiltIsTold(t *testing.T) {
	for _, version := range []string{"\x01", "\x02", "\x03"} {
		for _, inside := range []string{"\x00", "\x02", "\x00\x04\x00\x00\x00\x00", "\x00\x05\x00\x00\x00\x00", noise(1, 100, 256)} {
			s := "PT" + version + inside
			sealed := seal(s)
			sum := sealed[len(s):]
			for _, wrong := range []string{"\x00\x00\x00\x00", "\xff\xff\xff\xff", sum[3:] + sum[2:3] + sum[1:2] + sum[:1], sum[1:] + sum[:1]} {
				checkShut(t, "another sum", s+wrong, api.ErrSpoilt)
			}
			checkShut(t, "one more byte", sealed+"\x00", api.ErrSpoilt)
			checkShut(t, "sealed without its head", s+seal(inside)[len(inside):], api.ErrSpoilt)
			if len(inside) > 1 {
				checkShut(t, "one less byte", sealed[:len(sealed)-1], api.ErrSpoilt)
				checkShut(t, "a byte less inside", s[:len(s)-1]+sum, api.ErrSpoilt)
			}
		}
	}
}

// turn is a text with bits turned from one on, by a mask.
func turn(s string, bit int, mask uint32) string {
	b := []byte(s)
	for i := range 32 {
		if place := bit + i; mask>>i&1 == 1 && place/8 < len(b) {
			b[place/8] ^= 1 << (place % 8)
		}
	}
	return string(b)
}

// checkTurned asks that of a frame that was turned something is told, and what.
func checkTurned(t *testing.T, s, was string) {
	t.Helper()
	want := api.ErrSpoilt
	if s[:2] != was[:2] {
		want = api.ErrName
	} else if s[2] < 1 || s[2] > 3 {
		want = api.ErrNone
	}
	if s != was {
		checkShut(t, "turned", s, want)
	}
}

// Promises 12.1, 12.2 (whole 2): bits that are turned close together are seen.
func TestTurnedBitsAreSeen(t *testing.T) {
	for _, b := range []api.Batch{{}, single("v"), single("abcabcabcabc"), mixed(9)} {
		s := spelledOf(t, b)
		for bit := range len(s) * 8 {
			checkTurned(t, turn(s, bit, 1), s)
			for i := 1; i < 32; i++ {
				checkTurned(t, turn(s, bit, 1|1<<i), s)
			}
			masks := noise(bit, 4*20, 256)
			for i := 0; i < len(masks); i += 4 {
				checkTurned(t, turn(s, bit, binary.LittleEndian.Uint32([]byte(masks[i:]))), s)
			}
		}
	}
}

// Promise 12.2, P3: frames of the versions ahead are not read, whatever is inside.
func TestReadTellsOfOtherVersions(t *testing.T) {
	all := bodyOf(t, single("v"))
	for version := byte(1); version <= 2; version++ {
		for _, inside := range []string{"\x00", "\x02", "\x00" + size(all) + all, all, "\x00\x80\x00", "\x01\x04\x00", "\x00\x05\x00\x00\x00\x00"} {
			s := framed(version, inside)
			checkUnread(t, "another version", s, api.ErrState, -1)
			checkOpen(t, s, int(version), inside)
		}
	}
}

// Promise 12.2, P3: a body stands in one of two ways; that is told ahead of all behind it.
func TestReadTellsOfOtherWays(t *testing.T) {
	all := bodyOf(t, single("v"))
	for way := 2; way < 256; way++ {
		checkUnread(t, "another way", stood(byte(way), size(all), all), api.ErrForm, -1)
		checkUnread(t, "another way, alone", stood(byte(way), "", ""), api.ErrForm, -1)
		checkUnread(t, "another way, too many", stood(byte(way), number(20001), ""), api.ErrForm, -1)
		checkUnread(t, "another way, squeezed", stood(byte(way), size(all), squeeze(t, all)), api.ErrForm, -1)
	}
}

// Promise 12.2, P3: how many bytes the body has is a number up to 20,000, written in the one way; that is told ahead of all behind it.
func TestReadTellsOfWrongNumbers(t *testing.T) {
	all := bodyOf(t, single("v"))
	rests := []string{"", "\x00", all, squeeze(t, all), "\xff\xff\xff"}
	for _, way := range []byte{whole, squeezed} {
		for _, s := range []string{"", "\x80", "\x8f", "\xff\xff"} {
			checkUnread(t, "no end", stood(way, s, ""), api.ErrMissing, -1)
		}
		for _, rest := range rests {
			checkUnread(t, "a nought on top", stood(way, "\x8f\x00", rest), api.ErrForm, -1)
			checkUnread(t, "noughts on top", stood(way, "\x80\x80\x00", rest), api.ErrForm, -1)
			checkUnread(t, "more than 64 bits", stood(way, strings.Repeat("\xff", 9)+"\x02", rest), api.ErrLimit, -1)
			for _, n := range []uint64{20001, 20002, 1 << 20, 1 << 31, 1 << 32, math.MaxInt64, 1 << 63, math.MaxUint64} {
				checkUnread(t, "above the most", stood(way, number(n), rest), api.ErrRange, -1)
			}
		}
	}
	// Of 20,000 bytes what stands behind is asked, too: they aren't too many.
	checkUnread(t, "the most", stood(squeezed, number(20000), "\x00"), api.ErrForm, -1)
	checkUnread(t, "above the most", stood(squeezed, number(20001), "\x00"), api.ErrRange, -1)
}

// Promise 12.2, P3: what is wrong with what is squeezed is told ahead of how many bytes it has, and without a place; what stands as it is isn't swelled.
func TestReadTellsOfWrongSqueezing(t *testing.T) {
	own := func(s string) string { return number(2*uint64(len(s))) + s }
	for _, c := range []struct {
		name, s string
		want    api.Errno
	}{
		{"a text of no bytes", "\x00", api.ErrForm},
		{"a nought on top", "\x80\x00", api.ErrForm},
		{"a nought on top, further on", own("abcd") + "\x01\x83\x00", api.ErrForm},
		{"a text without an end", "\x04a", api.ErrMissing},
		{"a number without an end", "\x80", api.ErrMissing},
		{"nothing behind a Size", own("abcd") + "\x01", api.ErrMissing},
		{"from ahead of the beginning", own("abcd") + "\x01\x04", api.ErrMissing},
		{"a Size above the most", own("abcd") + number(2*(68-4)+1) + "\x00", api.ErrRange},
		{"a Back above the most", own("abcd") + "\x01" + number(1024), api.ErrRange},
		{"more than 64 bits", own("abcd") + strings.Repeat("\xff", 9) + "\x02", api.ErrLimit},
		{"20,001 bytes", own(strings.Repeat("x", 20001)), api.ErrLimit},
		{"20,000 bytes, and four more", own(strings.Repeat("x", 20000)) + "\x01\x00", api.ErrLimit},
		{"very many bytes", own("x") + strings.Repeat("\x7f\x00", 1<<20), api.ErrLimit},
	} {
		for _, n := range []uint64{0, 4, uint64(len(c.s)) % 20001, 20000} {
			checkUnread(t, c.name, stood(squeezed, number(n), c.s), c.want, -1)
		}
	}
	checkUnread(t, "a text of no bytes, but whole", stood(whole, "\x01", "\x00"), api.ErrMissing, 1)
	checkUnread(t, "a text without an end, but whole", stood(whole, "\x02", "\x04a"), api.ErrMissing, 0)
}

// Promise 12.2, P3: the body has as many bytes as are told, when it is swelled: that is asked ahead of what it is.
func TestReadTellsOfOtherLengths(t *testing.T) {
	for _, b := range []api.Batch{{}, single("v"), single("abcabcaxyz"), single("abcabcabcabc"), mixed(40)} {
		all := bodyOf(t, b)
		short := squeeze(t, all)
		for _, n := range []int{0, 1, len(all) - 1, len(all) + 1, len(all) + 128, 19999, 20000} {
			checkUnread(t, "another number", stood(whole, number(uint64(n)), all), api.ErrRange, -1)
			checkUnread(t, "another number, squeezed", stood(squeezed, number(uint64(n)), short), api.ErrRange, -1)
		}
		if len(short) != len(all) {
			checkUnread(t, "how many it has in the frame", stood(squeezed, size(short), short), api.ErrRange, -1)
		}
		checkUnread(t, "more bytes", stood(whole, size(all), all+"\x00"), api.ErrRange, -1)
		checkUnread(t, "more bytes, squeezed", stood(squeezed, size(all), short+"\x02\x00"), api.ErrRange, -1)
		checkUnread(t, "fewer bytes", stood(whole, size(all), all[1:]), api.ErrRange, -1)
	}
	for _, s := range []string{"\x01", "\xff\xff\xff", "\x00\x00\x00\x00\x00"} {
		checkUnread(t, "no body, and another number", stood(whole, number(uint64(len(s)+1)), s), api.ErrRange, -1)
	}
	checkUnread(t, "nothing", stood(whole, "\x01", ""), api.ErrRange, -1)
	checkUnread(t, "nothing, squeezed", stood(squeezed, "\x01", ""), api.ErrRange, -1)
	checkUnread(t, "very many bytes", stood(whole, number(20000), strings.Repeat("\x00", 1<<20)), api.ErrRange, -1)
}

// checkBody asks for an error of a body, in whichever way it stands, and no other one for how it stands.
func checkBody(t *testing.T, name, all string, want api.Errno, place int) {
	t.Helper()
	checkUnread(t, name, stood(whole, size(all), all), want, place)
	checkUnread(t, name+", squeezed", stood(squeezed, size(all), squeeze(t, all)), want, place)
}

// Promise 12.2, P3: what is wrong with the body is told with its place in the body, ahead of how it stands.
func TestReadTellsOfWrongBodies(t *testing.T) {
	for _, c := range []struct {
		name, s string
		want    api.Errno
		place   int
	}{
		{"nothing", "", api.ErrMissing, 0},
		{"no Have", "00", api.ErrMissing, 1},
		{"a wrong From", "11", api.ErrRange, 0},
		{"61 keys", "00 00 3d", api.ErrRange, 2},
		{"no writes", "00 01030007 01 016b", api.ErrMissing, 8},
		{"kind 5", "00 01030007 01 016b 01 05 07 00 00 0176", api.ErrArg, 9},
		{"a replica that isn't there", "00 01030007 01 016b 01 01 07 01 00 0176", api.ErrRange, 11},
		{"a value without an end", "00 01030007 01 016b 01 01 07 00 00 0276", api.ErrMissing, 13},
		{"one more byte", "00 01030007 01 016b 01 01 07 00 00 0176 00", api.ErrForm, 15},
		{"a key twice", "00 01030007 02 016b 016b 01 01 07 00 00 0176", api.ErrTwice, 17},
		{"a key of no write", "00 01030007 01 016b 00", api.ErrNone, 9},
		{"behind Have", "00 01030007 01 016b 01 01 08 00 00 0176", api.ErrState, 15},
		{"Have doesn't cover From", "01030008 01030007 00 00", api.ErrFalse, 10},
		{"much that is repeated", "00 00 3c" + strings.Repeat("0161", 50), api.ErrMissing, 103},
	} {
		checkBody(t, c.name, bin(t, c.s), c.want, c.place)
	}
	for _, b := range []api.Batch{{}, single("abcabcabcabc"), mixed(7)} {
		all := bodyOf(t, b)
		for i := range len(all) {
			_, err := body.Read(all[:i])
			e, place := plain.Place(err)
			checkBody(t, "a beginning of a body", all[:i], e, place)
			for _, c := range []byte{0, 1, 7, 0x80, 0xff} {
				other := all[:i] + string([]byte{c}) + all[i+1:]
				_, err := body.Read(other)
				if e, place := plain.Place(err); e != api.OK {
					checkBody(t, "another byte", other, e, place)
				}
			}
		}
	}
}

// pieces are the ways to cut a token in two that make the same text; own is the text that it makes.
func pieces(x api.Token, own string) [][]api.Token {
	var l [][]api.Token
	if x.Own != "" {
		for i := 1; i < len(x.Own); i++ {
			l = append(l, []api.Token{{Own: x.Own[:i]}, {Own: x.Own[i:]}})
		}
		return l
	}
	l = append(l, []api.Token{{Own: own}})
	for i := 1; i < x.Size; i++ {
		if i >= api.MinSize {
			l = append(l, []api.Token{{Back: x.Back, Size: i}, {Own: own[i:]}})
		}
		if x.Size-i >= api.MinSize {
			l = append(l, []api.Token{{Own: own[:i]}, {Back: x.Back, Size: x.Size - i}})
		}
	}
	return l
}

// otherwise are ways to squeeze a text that swell to it, but aren't the one that is written.
func otherwise(t *testing.T, s string) []string {
	t.Helper()
	l := match.Tokens(s)
	var all []string
	at := 0
	for i, x := range l {
		end := at + len(x.Own) + x.Size
		for _, two := range pieces(x, s[at:end]) {
			short, err := lz.Write(slices.Concat(l[:i], two, l[i+1:]))
			if back, e := lz.Swell(short); err != nil || e != nil || back != s {
				t.Fatalf("%.200x: %v, %v", short, err, e)
			}
			all = append(all, short)
		}
		at = end
	}
	return all
}

// Promise 12.2, P3: there is just one way to write a frame: what is squeezed otherwise, or stands otherwise, is false.
func TestThereIsJustOneWay(t *testing.T) {
	shorter := 0
	for _, b := range append(goods()[:60], mixed(20), mixed(60)) {
		all := bodyOf(t, b)
		s, way := spelled(t, all)
		if way == whole {
			checkUnread(t, "squeezed", stood(squeezed, size(all), squeeze(t, all)), api.ErrFalse, -1)
		} else {
			checkUnread(t, "as it stands", stood(whole, size(all), all), api.ErrFalse, -1)
		}
		for _, short := range otherwise(t, all) {
			if len(short) < len(all) {
				shorter++
			}
			checkUnread(t, "squeezed otherwise", stood(squeezed, size(all), short), api.ErrFalse, -1)
		}
		checkRead(t, s, b)
	}
	if shorter < 1000 {
		t.Errorf("but %d have fewer bytes than the body", shorter)
	}
}

// Promises 12.1, 12.2: no beginning of a frame is one, nor is one with more behind it.
func TestNoBeginningIsAFrame(t *testing.T) {
	for _, b := range append(goods()[:40], mixed(30)) {
		s := spelledOf(t, b)
		for i := range len(s) {
			want := api.ErrSpoilt
			if i < 8 {
				want = api.ErrMissing
			}
			checkShut(t, "a beginning", s[:i], want)
		}
		for _, more := range []string{"\x00", "\xff", "more", s} {
			checkShut(t, "more", s+more, api.ErrSpoilt)
		}
	}
}

// checkOneWay asks that what is read is written so, and that of all else an error tells.
func checkOneWay(t *testing.T, s string) bool {
	t.Helper()
	b, err := frame.Read(s)
	if err == nil {
		checkWrite(t, b, s)
		return true
	}
	if e, _ := plain.Place(err); !batch.Same(b, api.Batch{}) || e < api.ErrArg || e > api.ErrSpoilt {
		t.Errorf("Read(%.200x) = %s, error %d", s, show(b), e)
	}
	return false
}

// Promises 12.1, 12.2, P1: frames with one byte inside that is another, is one more, or isn't there, sealed anew.
func TestSealedAnew(t *testing.T) {
	read := 0
	for _, b := range append(goods()[:30], mixed(3)) {
		s := spelledOf(t, b)
		s = s[3 : len(s)-4]
		every := 1 + len(s)/20
		for i := 0; i < len(s); i += every {
			others := []string{s[:i] + s[i+1:]}
			for c := 0; c < 256; c += every {
				others = append(others, s[:i]+string([]byte{byte(c)})+s[i+1:], s[:i]+string([]byte{byte(c)})+s[i:])
			}
			for _, other := range others {
				if checkOneWay(t, framed(3, other)) {
					read++
				}
			}
		}
	}
	if read < 500 {
		t.Errorf("but %d were read", read)
	}
}

// Promises 12.1, 12.2, P1: bytes without a rule, alone and sealed.
func TestBytesWithoutARule(t *testing.T) {
	for i := range 4000 {
		s := noise(i, i%200, 1<<(1+i%8))
		checkOneWay(t, s)
		checkOneWay(t, framed(3, s))
		checkOneWay(t, stood(byte(i%2), size(s), s))
		checkOneWay(t, stood(squeezed, number(uint64(i%40)), "\x08\x00\x00\x00\x00"+s))
	}
}

// Promise P1: very many bytes.
func TestVeryManyBytes(t *testing.T) {
	for _, version := range []byte{1, 2, 3} {
		for _, c := range []string{"\x00", "\x01", "\x02", "\x80", "\xff"} {
			inside := strings.Repeat(c, 1<<18)
			checkOpen(t, framed(version, inside), int(version), inside)
			checkOneWay(t, framed(version, inside))
			checkOneWay(t, framed(version, "\x01"+inside))
			checkShut(t, "very many, spoilt", "PT"+string([]byte{version})+inside, api.ErrSpoilt)
		}
	}
}

// copied is a batch in memory of its own, with something else behind the lengths of its lists.
func copied(b api.Batch) api.Batch {
	more := api.Entry{Replica: 7, Time: 7}
	return api.Batch{
		From:   append(slices.Clone(b.From), more)[:len(b.From)],
		Have:   append(slices.Clone(b.Have), more)[:len(b.Have)],
		Writes: append(slices.Clone(b.Writes), put(7, "more", "v"))[:len(b.Writes)],
	}
}

// behind are a batch's lists, with what stands behind their lengths.
func behind(b api.Batch) [3]any {
	return [3]any{slices.Clone(b.From[:cap(b.From)]), slices.Clone(b.Have[:cap(b.Have)]), slices.Clone(b.Writes[:cap(b.Writes)])}
}

// Promise P4: nothing is written into lists that are handed in, nor behind them, nor is that asked for.
func TestNothingIsWrittenInto(t *testing.T) {
	for _, b := range goods() {
		a := copied(b)
		before := behind(a)
		checkWrite(t, a, spelledOf(t, b))
		if !reflect.DeepEqual(behind(a), before) {
			t.Errorf("%s was written into", show(b))
		}
	}
	for _, c := range badBatches() {
		a := copied(c.b)
		before := behind(a)
		checkUnwritten(t, c.name, a, c.want, c.place)
		if !reflect.DeepEqual(behind(a), before) {
			t.Errorf("%s: it was written into", c.name)
		}
	}
}

// Promise P4: what comes out is fresh: it shares no memory with what was handed in, nor with another answer.
func TestAnswersAreFresh(t *testing.T) {
	for _, b := range goods() {
		s := spelledOf(t, b)
		bytes := []byte(s)
		shared := unsafe.String(unsafe.SliceData(bytes), len(bytes))
		one, _ := frame.Read(shared)
		inside, _ := frame.Inside(shared)
		clear(bytes)
		if !batch.Same(one, b) || inside != s[3:len(s)-4] {
			t.Errorf("%s is %s now, and inside is %.200x", show(b), show(one), inside)
		}
		other, _ := frame.Read(s)
		clear(other.From)
		clear(other.Have)
		clear(other.Writes)
		if !batch.Same(one, b) {
			t.Errorf("%s is %s now", show(b), show(one))
		}
		checkRead(t, s, b)
	}
	text := []byte("kv")
	s, _ := frame.Write(api.Batch{Have: known(3, 7), Writes: []api.Write{put(7, unsafe.String(&text[0], 1), unsafe.String(&text[1], 1))}})
	clear(text)
	if want := spelledOf(t, single("v")); s != want {
		t.Errorf("the frame is %x now; want %x", s, want)
	}
}

// Promise P4: what a call answers hangs on its arguments alone: with an error ahead of it, too.
func TestNothingIsKept(t *testing.T) {
	b := mixed(20)
	s := spelledOf(t, b)
	for _, c := range badBatches() {
		checkUnwritten(t, c.name, c.b, c.want, c.place)
		checkWrite(t, b, s)
	}
	for i := range len(s) {
		frame.Read(s[:i])
		frame.Inside(s[i:])
		checkOpen(t, s, 3, s[3:len(s)-4])
		checkRead(t, s, b)
	}
}
