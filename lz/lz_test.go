package lz_test

import (
	"fmt"
	"math"
	"slices"
	"strings"
	"testing"
	"unsafe"

	"packtrain/api"
	"packtrain/lz"
	"packtrain/plain"
)

// text is a token of a text of its own.
func text(s string) api.Token { return api.Token{Own: s} }

// again is a token of what was there already.
func again(back, size int) api.Token { return api.Token{Back: back, Size: size} }

// apart are bytes of which no four stand twice: a number of two bytes, the higher one first, behind the other.
func apart(n int) string {
	b := make([]byte, n)
	for i := range b {
		b[i] = byte(i / 2 >> (8 * (1 - i%2)))
	}
	return string(b)
}

// mixed are bytes of few kinds, the same ones for the same seed.
func mixed(seed, n, kinds int) string {
	x := uint64(seed)
	b := make([]byte, n)
	for i := range b {
		x = x*6364136223846793005 + 1442695040888963407
		b[i] = 'a' + byte(x>>33%uint64(kinds))
	}
	return string(b)
}

// number is a number as 1.1 has it, spelled out: seven bits a byte, the lowest first.
func number(n uint64) string {
	if n < 128 {
		return string([]byte{byte(n)})
	}
	return string([]byte{byte(n%128 + 128)}) + number(n/128)
}

// spelled are tokens as 5.1 has them.
func spelled(l ...api.Token) string {
	s := ""
	for _, t := range l {
		if t.Own != "" {
			s += number(uint64(len(t.Own)*2)) + t.Own
			continue
		}
		s += number(uint64((t.Size-4)*2+1)) + number(uint64(t.Back-1))
	}
	return s
}

// shown are the first of some tokens, for a message.
func shown(l []api.Token) string { return fmt.Sprintf("%.100q", fmt.Sprint(l)) }

// checkBoth asks for tokens as bytes, and for the tokens that these are.
func checkBoth(t *testing.T, name, want string, l ...api.Token) {
	t.Helper()
	if s, err := lz.Write(l); s != want || err != nil {
		t.Errorf("%s: Write = %.40x, %v; want %.40x", name, s, err, want)
	}
	if r, err := lz.Read(want); !slices.Equal(r, l) || err != nil {
		t.Errorf("%s: Read(%.40x) = %s, %v; want %s", name, want, shown(r), err, shown(l))
	}
}

// checkUnwritten asks for an error of Write, and for no bytes with it.
func checkUnwritten(t *testing.T, name string, l []api.Token, want api.Errno, at int) {
	t.Helper()
	s, err := lz.Write(l)
	if e, place := plain.Place(err); e != want || place != at || s != "" {
		t.Errorf("%s: Write = %.40x, error %d at %d; want error %d at %d", name, s, e, place, want, at)
	}
}

// checkUnread asks for an error of Read, for the same one of Swell, and for nothing with it.
func checkUnread(t *testing.T, name, s string, want api.Errno, at int) {
	t.Helper()
	l, err := lz.Read(s)
	if e, place := plain.Place(err); e != want || place != at || len(l) != 0 {
		t.Errorf("%s: Read(%.40x) = %s, error %d at %d; want error %d at %d", name, s, shown(l), e, place, want, at)
	}
	u, err := lz.Swell(s)
	if e, place := plain.Place(err); e != want || place != at || u != "" {
		t.Errorf("%s: Swell(%.40x) = %.20q, error %d at %d; want error %d at %d", name, s, u, e, place, want, at)
	}
}

// checkSwell asks for the text that bytes are.
func checkSwell(t *testing.T, name, s, want string) {
	t.Helper()
	if u, err := lz.Swell(s); u != want || err != nil {
		t.Errorf("%s: Swell(%.40x) = %.40q, %v; want %.40q", name, s, u, err, want)
	}
}

// checkSqueeze asks for a text as bytes, and for the text back from these.
func checkSqueeze(t *testing.T, name, s, want string) {
	t.Helper()
	if u, err := lz.Squeeze(s); u != want || err != nil {
		t.Errorf("%s: Squeeze(%.40q) = %.40x, %v; want %.40x", name, s, u, err, want)
	}
	checkSwell(t, name, want, s)
}

// Promise 5.1: tokens as bytes that may be looked at, both ways.
func TestKnownBytes(t *testing.T) {
	checkBoth(t, "nothing", "")
	checkBoth(t, "example", "\x06abc\x05\x02", text("abc"), again(3, 6))
	checkBoth(t, "a byte", "\x02a", text("a"))
	checkBoth(t, "any bytes", "\x08\x00\xff\x80\x01", text("\x00\xff\x80\x01"))
	checkBoth(t, "texts", "\x02a\x04bc\x02d", text("a"), text("bc"), text("d"))
	checkBoth(t, "what reads like a token", "\x06\x05\x02\x00\x02\x02", text("\x05\x02\x00"), text("\x02"))
	checkBoth(t, "one number's longest text", "\x7e"+apart(63), text(apart(63)))
	checkBoth(t, "two bytes of a number", "\x80\x01"+apart(64), text(apart(64)))
	checkBoth(t, "two bytes of a number, at most", "\xfe\x7f"+apart(8191), text(apart(8191)))
	checkBoth(t, "three bytes of a number", "\x80\x80\x01"+apart(8192), text(apart(8192)))
	checkBoth(t, "the most", "\xc0\xb8\x02"+apart(20000), text(apart(20000)))
	checkBoth(t, "least and nearest", "\x02a\x01\x00", text("a"), again(1, 4))
	checkBoth(t, "greatest", "\x02a\x7f\x00", text("a"), again(1, 67))
	checkBoth(t, "a bit less", "\x02a\x7d\x00", text("a"), again(1, 66))
	far := apart(1024)
	checkBoth(t, "farthest", "\x80\x10"+far+"\x01\xff\x07", text(far), again(1024, 4))
	checkBoth(t, "greatest and farthest", "\x80\x10"+far+"\x7f\xff\x07", text(far), again(1024, 67))
	checkBoth(t, "one byte of back", "\x80\x10"+far+"\x01\x7f", text(far), again(128, 4))
	checkBoth(t, "two bytes of back", "\x80\x10"+far+"\x01\x80\x01", text(far), again(129, 4))
	checkBoth(t, "what was repeated, again", "\x02a\x03\x00\x01\x05\x02b", text("a"), again(1, 5), again(6, 4), text("b"))
}

// Promise 5.1: of each Size and Back, and of each length of a text.
func TestEachTokenBothWays(t *testing.T) {
	far := text(apart(api.MaxBack))
	for size := api.MinSize; size <= api.MaxSize; size++ {
		for back := 1; back <= api.MaxBack; back += 1 + size%5 {
			l := []api.Token{far, again(back, size), text("-")}
			checkBoth(t, "a repetition", spelled(l...), l...)
		}
	}
	for n := 1; n <= api.MaxBody; n += 1 + n/150*10 {
		checkBoth(t, "a text", spelled(text(apart(n))), text(apart(n)))
	}
}

// some are tokens with nothing wrong, the same ones for the same seed.
func some(seed, n int) []api.Token {
	l := []api.Token{text(mixed(seed, 1+seed%70, 26))}
	ahead := len(l[0].Own)
	for i, c := range []byte(mixed(seed, n, 26)) {
		k := int(c) * (i + 7*seed + 1)
		if k%3 == 0 {
			l = append(l, text(mixed(k, 1+k%130, 5)))
			ahead += 1 + k%130
			continue
		}
		size := api.MinSize + k%(api.MaxSize-api.MinSize+1)
		l = append(l, again(1+k%min(ahead, api.MaxBack), size))
		ahead += size
	}
	return l
}

// Promise 5.1: many tokens, both ways.
func TestManyTokensBothWays(t *testing.T) {
	for seed := range 60 {
		l := some(seed, 3*seed)
		checkBoth(t, "many", spelled(l...), l...)
	}
	// As many tokens as there may be: each has a byte.
	l := slices.Repeat([]api.Token{text("a")}, api.MaxBody)
	checkBoth(t, "bytes alone", strings.Repeat("\x02a", api.MaxBody), l...)
}

// Promises 5.1, P2: match's errors are told of the token's number; no bytes come with them.
func TestWriteOfWrongTokens(t *testing.T) {
	for _, x := range []struct {
		token api.Token
		want  api.Errno
	}{
		{api.Token{}, api.ErrArg},
		{api.Token{Own: "a", Back: 1, Size: 4}, api.ErrArg},
		{api.Token{Own: "a", Size: 4}, api.ErrArg},
		{api.Token{Own: "a", Back: 1}, api.ErrArg},
		{api.Token{Own: "a", Back: -1}, api.ErrArg},
		{text(apart(api.MaxBody)), api.ErrLimit},
		{again(1, 3), api.ErrRange},
		{again(1, 68), api.ErrRange},
		{again(0, 4), api.ErrRange},
		{again(1025, 4), api.ErrRange},
		{again(1, -1), api.ErrRange},
		{again(math.MinInt, math.MaxInt), api.ErrRange},
		{again(math.MaxInt, math.MinInt), api.ErrRange},
		{again(14, 4), api.ErrMissing},
	} {
		checkUnwritten(t, "one is wrong", []api.Token{text("abcdefgh"), again(3, 5), x.token}, x.want, 2)
		checkUnwritten(t, "two are wrong", []api.Token{text("abcdefgh"), x.token, again(1, 1), {}}, x.want, 1)
	}
	checkUnwritten(t, "nothing ahead", []api.Token{again(1, 4)}, api.ErrMissing, 0)
	checkUnwritten(t, "a byte too many", []api.Token{text(apart(api.MaxBody + 1))}, api.ErrLimit, 0)
	checkUnwritten(t, "a byte too many, repeated", []api.Token{text(apart(api.MaxBody - 3)), again(1, 4)}, api.ErrLimit, 1)
	checkUnwritten(t, "many too many", slices.Repeat([]api.Token{text("a")}, api.MaxBody+1), api.ErrLimit, api.MaxBody)
}

// checkBehind asks for an error at a byte of what stands alone, and behind some tokens.
func checkBehind(t *testing.T, name, s string, want api.Errno, at int) {
	t.Helper()
	checkUnread(t, name, s, want, at)
	for _, l := range [][]api.Token{
		{text("a")},
		{text("abcdefgh"), again(3, 5), again(1, 67)},
		{text(apart(300)), again(200, 67), text(apart(9000))},
	} {
		ahead := spelled(l...)
		checkUnread(t, name+", behind some", ahead+s, want, len(ahead)+at)
	}
}

// Promise 5.1: a token's first number isn't one: told where it begins.
func TestReadOfNoNumber(t *testing.T) {
	ones := strings.Repeat("\xff", 9)
	for _, x := range []struct {
		name, s string
		want    api.Errno
	}{
		{"it goes on", "\x80", api.ErrMissing},
		{"it goes on, an odd one", "\x85", api.ErrMissing},
		{"nine bytes go on", ones, api.ErrMissing},
		{"a nought on top", "\x80\x00", api.ErrForm},
		{"a nought on top of an odd one", "\x85\x00\x02", api.ErrForm},
		{"a nought on top of a text's", "\x82\x00a", api.ErrForm},
		{"a nought as the tenth", ones + "\x00", api.ErrForm},
		{"too great", ones + "\x02", api.ErrLimit},
		{"eleven bytes", ones + "\xff\x01", api.ErrLimit},
	} {
		checkBehind(t, x.name, x.s, x.want, 0)
	}
}

// Promise 5.1: an even number: it is 0, told where it begins, or there are fewer bytes, told at the end.
func TestReadOfTextsThatArent(t *testing.T) {
	checkBehind(t, "no bytes", "\x00", api.ErrForm, 0)
	checkBehind(t, "no bytes, and more behind", "\x00\x02a", api.ErrForm, 0)
	for _, n := range []int{1, 2, 3, 63, 64, 65, 300, 8191, 8192, 20000, 20001, 1 << 20} {
		size := len(number(uint64(2 * n)))
		for _, there := range []int{0, 1, n / 2, n - 1} {
			if there < n {
				checkBehind(t, "fewer bytes", number(uint64(2*n))+apart(there), api.ErrMissing, size+there)
			}
		}
	}
	for _, n := range []uint64{1 << 31, 1<<31 - 2, 1 << 32, 1<<32 + 2, 1<<33 + 2, 1<<62 + 4, 1 << 63, 1<<63 - 2, 1<<63 + 2, math.MaxUint64 - 1, math.MaxUint64 - 3, math.MaxUint64 - 19} {
		s := number(n)
		checkBehind(t, "very many", s, api.ErrMissing, len(s))
		checkBehind(t, "very many, a few there", s+"a few there", api.ErrMissing, len(s)+11)
	}
}

// Promise 5.1: an odd number: Size is above MaxSize, told where it begins, ahead of what Back is.
func TestReadOfTooGreatASize(t *testing.T) {
	for _, n := range []uint64{129, 131, 133, 255, 257, 383, 385, 513, 16383, 16385, 1<<31 + 1, 1<<32 + 1, 1<<33 + 1, 1<<62 + 1, 1<<63 - 1, 1<<63 + 1, math.MaxUint64 - 8, math.MaxUint64 - 6, math.MaxUint64 - 2, math.MaxUint64} {
		s := number(n)
		for _, behind := range []string{"", "\x00", "\x80", "\x80\x00", "\x80\x08", "\x01\x02a"} {
			checkBehind(t, "Size is too great", s+behind, api.ErrRange, 0)
		}
	}
}

// Promise 5.1: an odd number, and the one behind it isn't one, or above MaxBack - 1: told where that one begins.
func TestReadOfWrongBacks(t *testing.T) {
	ones := strings.Repeat("\xff", 9)
	for _, x := range []struct {
		name, s string
		want    api.Errno
	}{
		{"nothing", "", api.ErrMissing},
		{"it goes on", "\x80", api.ErrMissing},
		{"too great, and it goes on", ones, api.ErrMissing},
		{"a nought on top", "\x80\x00", api.ErrForm},
		{"a nought on top of too great a one", ones + "\x00", api.ErrForm},
		{"too great a number", ones + "\x02", api.ErrLimit},
		{"1024", "\x80\x08", api.ErrRange},
		{"1025", "\x81\x08", api.ErrRange},
		{"1024, and more behind", "\x80\x08\x00", api.ErrRange},
		{"2047", "\xff\x0f", api.ErrRange},
		{"2 to the 32nd", number(1 << 32), api.ErrRange},
		{"2 to the 63rd", number(1 << 63), api.ErrRange},
		{"the greatest", number(math.MaxUint64), api.ErrRange},
	} {
		for _, first := range []string{"\x01", "\x05", "\x7f"} {
			checkBehind(t, x.name, first+x.s, x.want, 1)
		}
	}
}

// Promise 5.1: match's errors, where the token begins.
func TestReadOfWrongTokens(t *testing.T) {
	checkUnread(t, "nothing ahead", "\x01\x00", api.ErrMissing, 0)
	checkUnread(t, "nothing ahead, more behind", "\x7f\xff\x07\x02a", api.ErrMissing, 0)
	checkUnread(t, "one too few", "\x02a\x05\x01", api.ErrMissing, 2)
	checkUnread(t, "one too few, in two", "\x02a\x01\x00\x02b\x01\x06", api.ErrMissing, 6)
	checkUnread(t, "two are wrong", "\x02a\x05\x01\x05\x7f", api.ErrMissing, 2)
	far := apart(1023)
	checkUnread(t, "one too few ahead of the farthest", spelled(text(far), again(1024, 4)), api.ErrMissing, 2+1023)
	most := text(apart(api.MaxBody))
	for _, x := range []api.Token{text("a"), text(most.Own), again(1, 4), again(1024, 67)} {
		checkUnread(t, "no room", spelled(most, x), api.ErrLimit, 3+api.MaxBody)
		checkUnread(t, "no room for two", spelled(most, x, x), api.ErrLimit, 3+api.MaxBody)
	}
	checkUnread(t, "a byte too many", spelled(text(apart(api.MaxBody+1))), api.ErrLimit, 0)
	checkUnread(t, "very many bytes", spelled(text("a"), text(apart(1<<20))), api.ErrLimit, 2)
	checkUnread(t, "very many texts", strings.Repeat("\x02a", 1<<18), api.ErrLimit, 2*api.MaxBody)
	checkUnread(t, "very many repetitions", "\x02a"+strings.Repeat("\x7f\x00", 1<<18), api.ErrLimit, 2+2*298)
}

// Promises 5.1, P3: what a token's bytes are counts ahead of what match finds wrong with any token.
func TestReadTellsBytesFirst(t *testing.T) {
	for _, x := range []struct {
		s    string
		want api.Errno
		at   int
	}{
		{"\x00", api.ErrForm, 0}, {"\x80", api.ErrMissing, 0}, {"\x80\x00", api.ErrForm, 0},
		{"\x04a", api.ErrMissing, 2}, {"\x81\x01\x00", api.ErrRange, 0}, {"\x05", api.ErrMissing, 1},
		{"\x05\x80\x08", api.ErrRange, 1}, {"\x05\x80\x00", api.ErrForm, 1}, {strings.Repeat("\xff", 10), api.ErrLimit, 0},
	} {
		for _, ahead := range []string{"\x01\x00", "\x02a\x05\x01", spelled(text(apart(api.MaxBody + 1)))} {
			checkUnread(t, "both are wrong", ahead+x.s, x.want, len(ahead)+x.at)
			checkUnread(t, "both are wrong, one between", ahead+"\x02a"+x.s, x.want, len(ahead)+2+x.at)
		}
		checkUnread(t, "two are wrong", "\x00"+x.s, api.ErrForm, 0)
		checkUnread(t, "two are wrong", "\x81\x01"+x.s, api.ErrRange, 0)
		checkUnread(t, "two are wrong", "\x02a\x05\x80\x08"+x.s, api.ErrRange, 3)
	}
}

// repeated are all tokens of what was there already, by their bytes.
func repeated() map[string]api.Token {
	m := map[string]api.Token{}
	for size := api.MinSize; size <= api.MaxSize; size++ {
		for back := 1; back <= api.MaxBack; back++ {
			m[spelled(again(back, size))] = again(back, size)
		}
	}
	return m
}

// begun is the token that bytes begin with, and how many they are, found by spelling those that there may be.
func begun(s string, m map[string]api.Token) (api.Token, int) {
	for n := 1; n < len(s); n++ {
		size := len(number(uint64(2 * n)))
		if end := size + n; end <= len(s) && spelled(text(s[size:end])) == s[:end] {
			return text(s[size:end]), end
		}
	}
	for end := range min(len(s), 3) {
		if t, ok := m[s[:end+1]]; ok {
			return t, end + 1
		}
	}
	return api.Token{}, 0
}

// written tells whether bytes are tokens one behind the other, and which.
func written(s string, m map[string]api.Token) ([]api.Token, bool) {
	var l []api.Token
	for s != "" {
		t, size := begun(s, m)
		if size == 0 {
			return nil, false
		}
		l, s = append(l, t), s[size:]
	}
	return l, true
}

// short are all texts of some bytes, up to a length.
func short(kinds string, most int) []string {
	out := []string{""}
	for i := 0; len(out[i]) < most; i++ {
		for _, c := range []byte(kinds) {
			out = append(out, out[i]+string([]byte{c}))
		}
	}
	return out
}

// checkWritten asks Read whether bytes are tokens, and which; of what it answers, Write for just these bytes.
func checkWritten(t *testing.T, s string, m map[string]api.Token) {
	t.Helper()
	want, ok := written(s, m)
	l, err := lz.Read(s)
	if !ok {
		if _, place := plain.Place(err); err == nil || place < 0 || place > len(s) || len(l) != 0 {
			t.Errorf("Read(%x) = %s, %v at %d; no tokens are written so", s, shown(l), err, place)
		}
		return
	}
	u, e := lz.Write(want)
	if err != nil {
		// Nothing but what makes Write refuse them, too.
		if api.Tell(err) != api.Tell(e) || len(l) != 0 {
			t.Errorf("Read(%x) = %s, %v; Write of %s has %v", s, shown(l), err, shown(want), e)
		}
		return
	}
	if !slices.Equal(l, want) || e != nil || u != s {
		t.Errorf("Read(%x) = %s; want %s, which are %x, %v", s, shown(l), shown(want), u, e)
	}
}

// Promises 5.1, P1: Read has the tokens that are so written, and nothing else, of all short texts.
func TestReadHasWhatIsWritten(t *testing.T) {
	m := repeated()
	for _, s := range short("\x00\x01\x02\x05\x80\x81", 4) {
		checkWritten(t, s, m)
		checkWritten(t, "\x04\x00\x01"+s, m)
	}
	for c := range 256 {
		for _, s := range []string{"", "\x00", "\x01", "\x07\x02", "\x08"} {
			checkWritten(t, "\x08abcd"+string([]byte{byte(c)})+s, m)
			checkWritten(t, "\x08abcd\x01"+string([]byte{byte(c)})+s, m)
			checkWritten(t, "\x08abcd\x01\x80"+string([]byte{byte(c)})+s, m)
		}
	}
}

// Promises 5.1, P1: a beginning of what is written is other tokens, or none; a byte turned is none, or told as it stands.
func TestReadOfWhatIsCutOrTurned(t *testing.T) {
	m := repeated()
	for seed := range 6 {
		s := spelled(some(seed, 6)...)
		for i := range s {
			checkWritten(t, s[:i], m)
			b := []byte(s)
			b[i] ^= 1 << (i % 8)
			checkWritten(t, string(b), m)
		}
	}
}

// Promise 5.2: texts squeezed that may be looked at.
func TestSqueezeOfKnownTexts(t *testing.T) {
	checkSqueeze(t, "nothing", "", "")
	checkSqueeze(t, "a byte", "a", "\x02a")
	checkSqueeze(t, "example", "abcabcabc", "\x06abc\x05\x02")
	checkSqueeze(t, "too short", "abcdabc", "\x0eabcdabc")
	checkSqueeze(t, "into itself", "aaaaa", "\x02a\x01\x00")
	checkSqueeze(t, "text behind", "abcdabcdefgh", "\x08abcd\x01\x03\x08efgh")
	checkSqueeze(t, "the nearest", "abcd-abcd+abcd", "\x0aabcd-\x01\x04\x02+\x01\x04")
	checkSqueeze(t, "the longest", "abcde-abcd+abcde", "\x0cabcde-\x01\x05\x02+\x03\x0a")
	checkSqueeze(t, "the longest there is", strings.Repeat("a", 69), "\x02a\x7f\x00\x02a")
	checkSqueeze(t, "longer", strings.Repeat("ab", 70), "\x04ab\x7f\x01\x7f\x01\x01\x01")
	checkSqueeze(t, "any bytes", "\x00\xff\x00\xff\x00\xff", "\x04\x00\xff\x01\x01")
	far := apart(1024)
	checkSqueeze(t, "the farthest", far+far[:4], "\x80\x10"+far+"\x01\xff\x07")
	far = apart(1025)
	checkSqueeze(t, "too far", far+far[:4], "\x8a\x10"+far+far[:4])
}

// Promise 5.2: what is squeezed swells to what it was.
func TestSqueezeAndSwell(t *testing.T) {
	texts := short("ab", 12)
	for seed := range 10 {
		for _, n := range []int{20, 200, 2000} {
			texts = append(texts, mixed(seed, n, 2), mixed(seed, n, 4), mixed(seed, n, 26), strings.Repeat(mixed(seed, n, 9), 3))
		}
	}
	texts = append(texts, apart(api.MaxBody), strings.Repeat("a", api.MaxBody), mixed(1, api.MaxBody, 3))
	for _, s := range texts {
		u, err := lz.Squeeze(s)
		if err != nil {
			t.Errorf("Squeeze(%.20q..): %v", s, err)
		}
		checkSwell(t, "back", u, s)
	}
}

// Promises 5.2, P2: up to MaxBody bytes are squeezed; of more ErrLimit is told, without a place.
func TestSqueezeOfTooMuch(t *testing.T) {
	most := apart(api.MaxBody)
	checkSqueeze(t, "the most", most, "\xc0\xb8\x02"+most)
	checkSqueeze(t, "the most, repeated", strings.Repeat("a", api.MaxBody), "\x02a"+strings.Repeat("\x7f\x00", 298)+"\x3b\x00")
	for _, s := range []string{apart(api.MaxBody + 1), strings.Repeat("a", api.MaxBody+1), strings.Repeat("ab", 1<<20)} {
		u, err := lz.Squeeze(s)
		if e, place := plain.Place(err); e != api.ErrLimit || place != -1 || u != "" {
			t.Errorf("Squeeze of %d bytes = %.20x, error %d at %d; want error %d without a place", len(s), u, e, place, api.ErrLimit)
		}
	}
}

// Promise 5.2: what tokens make, those too that Squeeze would not choose.
func TestSwellOfKnownBytes(t *testing.T) {
	checkSwell(t, "nothing", "", "")
	checkSwell(t, "example", "\x06abc\x05\x02", "abcabcabc")
	checkSwell(t, "texts", "\x02a\x04bc\x02d", "abcd")
	checkSwell(t, "not the nearest", "\x0cabcdef\x01\x05\x04gh", "abcdefabcdgh")
	checkSwell(t, "not whole times", "\x04ab\x03\x01", "abababa")
	checkSwell(t, "of what was repeated", "\x02a\x03\x00\x02b\x01\x01", "aaaaaababab")
	ahead, far := strings.Repeat("-", api.MaxBody-67-api.MaxBack), apart(api.MaxBack)
	checkSwell(t, "the most", spelled(text(ahead+far), again(api.MaxBack, 67)), ahead+far+far[:67])
}

// Promise P4: no list is written into, nor what stands behind its length.
func TestListsStayAsTheyAre(t *testing.T) {
	for _, l := range [][]api.Token{
		{text("abc"), again(3, 6), text("d"), again(1, 4)},
		{text("abc"), again(4, 6), text("d"), again(1, 4)},
	} {
		was := slices.Clone(l)
		lz.Write(l[:2])
		lz.Write(l)
		if !slices.Equal(l, was) {
			t.Errorf("tokens are %s now; they were %s", shown(l), shown(was))
		}
	}
}

// held is a text whose bytes may be cleared.
func held(s string) (string, []byte) {
	b := []byte(s)
	return unsafe.String(&b[0], len(b)), b
}

// Promise P4: what comes out is fresh memory, and the caller's.
func TestAnswersAreFresh(t *testing.T) {
	s, bytes := held("\x08abcd\x01\x03")
	first, _ := lz.Read(s)
	second, _ := lz.Read(s)
	first[0] = text("other")
	swollen, _ := lz.Swell(s)
	clear(bytes)
	if !slices.Equal(second, []api.Token{text("abcd"), again(4, 4)}) || swollen != "abcdabcd" {
		t.Errorf("Read's tokens are %s now, and Swell's text is %q", shown(second), swollen)
	}
	s, bytes = held("abcd")
	squeezed, _ := lz.Squeeze(s)
	wrote, _ := lz.Write([]api.Token{text(s)})
	clear(bytes)
	if squeezed != "\x08abcd" || wrote != "\x08abcd" {
		t.Errorf("Squeeze's bytes are %x now, and Write's %x", squeezed, wrote)
	}
}
