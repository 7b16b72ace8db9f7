package match_test

import (
	"math"
	"slices"
	"strings"
	"testing"
	"unsafe"

	"packtrain/api"
	"packtrain/match"
	"packtrain/plain"
)

// apart are bytes of which no four stand twice: a number of two bytes, the higher one first, behind the other.
func apart(n int) string {
	b := make([]byte, n)
	for i := range b {
		b[i] = byte(i / 2 >> (8 * (1 - i%2)))
	}
	return string(b)
}

// mixed are bytes of few kinds, the same ones for the same seed.
func mixed(seed, n, kinds int) string {
	x := uint64(seed)
	b := make([]byte, n)
	for i := range b {
		x = x*6364136223846793005 + 1442695040888963407
		b[i] = 'a' + byte(x>>33%uint64(kinds))
	}
	return string(b)
}

// woven are pieces of mixed bytes, which come again from here and there.
func woven(seed, n int) string {
	s := mixed(seed, 50, 3)
	for i := 0; len(s) < n; i++ {
		from := (i * i * 37) % len(s)
		s += s[from:min(len(s), from+i%90)] + mixed(i, i%5, 20)
	}
	return s[:n]
}

// all are all texts of two kinds of bytes, up to a length.
func all(most int) []string {
	out := []string{""}
	for i := 0; len(out[i]) < most; i++ {
		out = append(out, out[i]+"a", out[i]+"b")
	}
	return out
}

// found is what Find is to find, as the document has it: of the greatest size that of the least back.
func found(s string, at int) (back, size int) {
	if at < 0 || at >= len(s) {
		return 0, 0
	}
	for size := min(api.MaxSize, len(s)-at); size >= api.MinSize; size-- {
		for back := 1; back <= min(api.MaxBack, at); back++ {
			if s[at:at+size] == s[at-back:at-back+size] {
				return back, size
			}
		}
	}
	return 0, 0
}

// checkFind asks for a repetition.
func checkFind(t *testing.T, name, s string, at, back, size int) {
	t.Helper()
	b, n := match.Find(s, at)
	if b != back || n != size {
		t.Errorf("%s: Find(%.20q.., %d) = %d, %d; want %d, %d", name, s, at, b, n, back, size)
	}
}

// checkTokens asks for a text's tokens.
func checkTokens(t *testing.T, s string, want ...api.Token) {
	t.Helper()
	if l := match.Tokens(s); !slices.Equal(l, want) {
		t.Errorf("Tokens(%.20q..) = %.60v; want %.60v", s, l, want)
	}
}

// checkRight asks for nothing wrong.
func checkRight(t *testing.T, name string, l ...api.Token) {
	t.Helper()
	if err := match.Right(l); err != nil {
		e, place := plain.Place(err)
		t.Errorf("%s: Right: error %d at %d; want none", name, e, place)
	}
	if _, err := match.Text(l); err != nil {
		t.Errorf("%s: Text: %v; want no error", name, err)
	}
}

// checkWrong asks for an error of Right, for the same one of Text, and for no text with it.
func checkWrong(t *testing.T, name string, l []api.Token, want api.Errno, at int) {
	t.Helper()
	if e, place := plain.Place(match.Right(l)); e != want || place != at {
		t.Errorf("%s: Right: error %d at %d; want %d at %d", name, e, place, want, at)
	}
	s, err := match.Text(l)
	if e, place := plain.Place(err); e != want || place != at {
		t.Errorf("%s: Text: error %d at %d; want %d at %d", name, e, place, want, at)
	}
	if s != "" {
		t.Errorf("%s: Text answers %.20q.. with an error", name, s)
	}
}

// checkText asks for the text that tokens make.
func checkText(t *testing.T, name, want string, l ...api.Token) {
	t.Helper()
	s, err := match.Text(l)
	if s != want || err != nil {
		t.Errorf("%s: Text = %.80q, %v; want %.80q", name, s, err, want)
	}
}

// text is a token of a text of its own.
func text(s string) api.Token { return api.Token{Own: s} }

// again is a token of what was there already.
func again(back, size int) api.Token { return api.Token{Back: back, Size: size} }

// Promise 4.1: what is found in texts that may be looked at.
func TestFindFinds(t *testing.T) {
	for _, x := range []struct {
		name, s        string
		at, back, size int
	}{
		{"example", "abcabcabc", 3, 3, 6},
		{"into itself", "aaaaaa", 1, 1, 5},
		{"a few bytes on", "abcabcabc", 4, 3, 5},
		{"the least size", "abcdabcd", 4, 4, 4},
		{"the least size, then another byte", "abcdxabcdy", 5, 5, 4},
		{"one byte too few", "abcdabce", 4, 0, 0},
		{"one byte too few to the end", "abcdabc", 4, 0, 0},
		{"one byte", "a", 0, 0, 0},
		{"the first byte", "aaaaaaaa", 0, 0, 0},
		{"the last byte", "aaaaaaaa", 7, 0, 0},
		{"four bytes to the end", "aaaaaaaa", 4, 1, 4},
		{"three bytes to the end", "aaaaaaaa", 5, 0, 0},
		{"the nearest of two", "abcdxabcdyabcdz", 10, 5, 4},
		{"a longer one further back", "abcdexabcdyabcde", 11, 11, 5},
		{"a longer one nearer", "abcdyabcdexabcde", 11, 6, 5},
		{"not as far on as it begins elsewhere", "xabcdyabcd", 5, 0, 0},
		{"any bytes", "\x00\xff\x80\n\x00\xff\x80\n", 4, 4, 4},
		{"nothing but noughts", "\x00\x00\x00\x00\x00", 1, 1, 4},
	} {
		checkFind(t, x.name, x.s, x.at, x.back, x.size)
	}
}

// Promises 4.1, P1, P2: there is no such byte.
func TestFindOfNoByte(t *testing.T) {
	for _, s := range []string{"", "a", "abcd", "aaaaaaaa"} {
		for _, at := range []int{-1, -4, math.MinInt, math.MinInt + 1, len(s), len(s) + 1, math.MaxInt - 66, math.MaxInt} {
			checkFind(t, "no byte", s, at, 0, 0)
		}
	}
}

// Promise 4.1: back is MaxBack at most.
func TestFindGoesBackToMaxBack(t *testing.T) {
	for _, n := range []int{4, 5, 100, api.MaxBack - 1, api.MaxBack} {
		s := apart(n)
		checkFind(t, "not too far", s+s[:4], n, n, 4)
		checkFind(t, "not too far, with more ahead", "more"+s+s[:4], n+4, n, 4)
	}
	for _, n := range []int{api.MaxBack + 1, api.MaxBack + 2, 2 * api.MaxBack} {
		s := apart(n)
		checkFind(t, "too far", s+s, n, 0, 0)
	}
	s := apart(api.MaxBack + 1)
	checkFind(t, "too far, and its second byte isn't", s+s[:8], len(s)+1, 0, 0)
	checkFind(t, "longer, but too far", s+"\x00\x00\x00\x01-"+s[:8], len(s)+5, 5, 4)
}

// Promise 4.1: size is MaxSize at most, and then the nearest is found, too.
func TestFindGoesOnToMaxSize(t *testing.T) {
	s := apart(200)
	for n := api.MinSize; n <= 200; n++ {
		checkFind(t, "to the end", s+s[:n], 200, 200, min(n, api.MaxSize))
		checkFind(t, "to another byte", s+s[:n]+"\xff", 200, 200, min(n, api.MaxSize))
	}
	long := apart(api.MaxSize)
	checkFind(t, "a longer one that ends there, too", long+"+"+"-"+long+"*"+long+"+", 2*len(long)+3, len(long)+1, api.MaxSize)
	checkFind(t, "a shorter one nearer", long+"-"+long[:66]+"*"+long, 2*len(long)+1, 2*len(long)+1, api.MaxSize)
	checkFind(t, "very many", strings.Repeat("a", 1<<20), 1<<19, 1, api.MaxSize)
	checkFind(t, "very many, to the end", strings.Repeat("ab", 1<<19), 1<<20-66, 2, 66)
}

// Promise 4.1: Find is what the document says, of all short texts, and of long ones.
func TestFindIsTheLongestAndNearest(t *testing.T) {
	for _, s := range all(11) {
		for at := -1; at <= len(s)+1; at++ {
			back, size := found(s, at)
			checkFind(t, "short", s, at, back, size)
		}
	}
	for seed := range 4 {
		for _, s := range []string{mixed(seed, 1500, 2), mixed(seed, 2500, 4), woven(seed, 3000)} {
			for at := seed; at < len(s); at += 61 {
				back, size := found(s, at)
				checkFind(t, "long", s, at, back, size)
			}
		}
	}
}

// Promise 4.1: tokens of texts that may be looked at.
func TestTokensOfKnownTexts(t *testing.T) {
	checkTokens(t, "")
	checkTokens(t, "a", text("a"))
	checkTokens(t, "aaaa", text("aaaa"))
	checkTokens(t, "aaaaa", text("a"), again(1, 4))
	checkTokens(t, "abcabcabc", text("abc"), again(3, 6))
	checkTokens(t, "no repetition", text("no repetition"))
	checkTokens(t, "abcdabcdefgh", text("abcd"), again(4, 4), text("efgh"))
	checkTokens(t, "abcdxabcdyz-abcd", text("abcdx"), again(5, 4), text("yz-"), again(7, 4))
	checkTokens(t, "abcdabcd\x00abcd\x00", text("abcd"), again(4, 4), text("\x00"), again(5, 5))
	checkTokens(t, "aaaaabbbbb", text("a"), again(1, 4), text("b"), again(1, 4))
	checkTokens(t, "\xff\x00\xff\x00\xff\x00", text("\xff\x00"), again(2, 4))
}

// Promise 4.1: the first place counts, even if a later one has more.
func TestTokensTakeWhatIsFoundFirst(t *testing.T) {
	checkTokens(t, "abcd+bcdefgh-abcdefgh", text("abcd+bcdefgh-"), again(13, 4), again(9, 4))
	checkTokens(t, "abcd+cdefg-abcdefg", text("abcd+cdefg-"), again(11, 4), text("efg"))
}

// Promise 4.1: what is longer than MaxSize is found in pieces; bytes of their own stand together, however many.
func TestTokensOfLongTexts(t *testing.T) {
	checkTokens(t, strings.Repeat("a", 1+67), text("a"), again(1, 67))
	checkTokens(t, strings.Repeat("a", 1+67+3), text("a"), again(1, 67), text("aaa"))
	checkTokens(t, strings.Repeat("a", 1+67+4), text("a"), again(1, 67), again(1, 4))
	checkTokens(t, strings.Repeat("ab", 1+67), text("ab"), again(2, 67), again(2, 67))
	for _, n := range []int{2, api.MaxSpan, api.MaxSpan + 1, api.MaxBody} {
		checkTokens(t, apart(n), text(apart(n)))
	}
	far := apart(api.MaxBack)
	checkTokens(t, far+far[:5], text(far), again(api.MaxBack, 5))
	far = apart(api.MaxBack + 1)
	checkTokens(t, far+far[:4], text(far+far[:4]))
}

// checkWalk asks for a text's tokens from what Find finds, and for the text from these.
func checkWalk(t *testing.T, s string) {
	t.Helper()
	at, behind := 0, false
	l := match.Tokens(s)
	for i, x := range l {
		if x.Own == "" {
			checkFind(t, "a token", s, at, x.Back, x.Size)
			at, behind = at+x.Size, false
			continue
		}
		if behind || !strings.HasPrefix(s[at:], x.Own) || x.Back != 0 || x.Size != 0 {
			t.Fatalf("Tokens(%.20q..)[%d] = %.60v at %d", s, i, x, at)
		}
		for range x.Own {
			checkFind(t, "a byte of its own", s, at, 0, 0)
			at++
		}
		behind = true
	}
	if at != len(s) {
		t.Errorf("Tokens(%.20q..) has %d bytes of %d", s, at, len(s))
	}
	checkRight(t, "Tokens", l...)
	checkText(t, "Tokens", s, l...)
}

// Promises 4.1, 4.2: tokens are what Find finds, and swell to the text.
func TestTokensMakeTheText(t *testing.T) {
	for _, s := range all(12) {
		checkWalk(t, s)
	}
	for seed := range 8 {
		for _, n := range []int{30, 300, 3000} {
			checkWalk(t, mixed(seed, n, 2))
			checkWalk(t, mixed(seed, n, 5))
			checkWalk(t, woven(seed, n))
		}
	}
	checkWalk(t, strings.Repeat("a", api.MaxBody))
	checkWalk(t, strings.Repeat(mixed(1, 1000, 20), 20))
	checkWalk(t, woven(9, api.MaxBody))
	checkWalk(t, mixed(9, api.MaxBody, 3))
}

// Promise 4.2: nothing is wrong, up to each bound.
func TestRightOfWhatIsRight(t *testing.T) {
	checkRight(t, "nothing")
	checkRight(t, "a text", text("a"))
	checkRight(t, "two texts", text("a"), text("b"))
	checkRight(t, "bytes that it makes itself", text("a"), again(1, 67))
	checkRight(t, "what isn't found so", text("aaaaaaaa"), again(8, 4), again(2, 5))
	ahead := text(apart(api.MaxBack))
	for size := api.MinSize; size <= api.MaxSize; size++ {
		for _, back := range []int{1, 2, size, api.MaxBack - 1, api.MaxBack} {
			checkRight(t, "within", ahead, again(back, size))
		}
	}
	for n := 1; n <= 10; n++ {
		checkRight(t, "all there is", text(apart(n)), again(n, 4))
		checkRight(t, "all there is, of what was there already", text("a"), again(1, n+3), again(n+4, 4))
	}
	checkRight(t, "the most", text(apart(api.MaxBody)))
	checkRight(t, "the most, in two", text(apart(api.MaxBody-1)), text("a"))
	checkRight(t, "the most, repeated", text(apart(api.MaxBody-4)), again(api.MaxBack, 4))
	checkRight(t, "the most, of the most", text(apart(api.MaxBody-67)), again(1, 67))
}

// Promises 4.2, P2, P3: ErrArg: both, or neither.
func TestRightOfBothOrNeither(t *testing.T) {
	for _, x := range []struct {
		name  string
		token api.Token
	}{
		{"neither", api.Token{}},
		{"a text and both", api.Token{Own: "a", Back: 1, Size: 4}},
		{"a text and Size", api.Token{Own: "a", Size: 4}},
		{"a text and Back", api.Token{Own: "a", Back: 1}},
		{"a text and Size below 0", api.Token{Own: "a", Size: -1}},
		{"a text and Back below 0", api.Token{Own: "a", Back: -1}},
		{"a text and Size that takes it away", api.Token{Own: "abcd", Size: -4}},
		{"a text and the least Size", api.Token{Own: "a", Size: math.MinInt}},
		{"a text and the greatest Back", api.Token{Own: "a", Back: math.MaxInt}},
		{"too long a text and Size", api.Token{Own: apart(api.MaxBody + 1), Size: 4}},
		{"a text and too great a Size", api.Token{Own: "a", Size: 68}},
		{"a text and too great a Back", api.Token{Own: "a", Back: 1025, Size: 4}},
	} {
		checkWrong(t, x.name, []api.Token{x.token}, api.ErrArg, 0)
		checkWrong(t, x.name, []api.Token{text("abcd"), x.token}, api.ErrArg, 1)
		checkWrong(t, x.name, []api.Token{text(apart(api.MaxBody)), x.token}, api.ErrArg, 1)
	}
}

// Promises 4.2, P2, P3: ErrRange: Size or Back is beyond its bounds, ahead of what is missing or too much.
func TestRightOfWhatIsBeyond(t *testing.T) {
	least, greatest := math.MinInt, math.MaxInt
	for _, x := range []api.Token{
		again(1, 0), again(1, 1), again(1, 3), again(1, 68), again(1, -4), again(1, least), again(1, greatest),
		again(0, 4), again(-1, 4), again(1025, 4), again(least, 4), again(greatest, 4),
		again(0, 67), again(1024, 68), again(1024, 3), again(-1, -1), again(greatest, greatest), again(least, least),
	} {
		checkWrong(t, "alone", []api.Token{x}, api.ErrRange, 0)
		checkWrong(t, "behind few", []api.Token{text("a"), text("b"), x}, api.ErrRange, 2)
		checkWrong(t, "behind many", []api.Token{text(apart(2000)), x}, api.ErrRange, 1)
		checkWrong(t, "behind the most", []api.Token{text(apart(api.MaxBody)), x, text("a")}, api.ErrRange, 1)
	}
}

// Promises 4.2, P2, P3: ErrMissing: there are fewer than Back bytes ahead.
func TestRightOfWhatIsMissing(t *testing.T) {
	for _, size := range []int{4, 67} {
		checkWrong(t, "nothing ahead", []api.Token{again(1, size)}, api.ErrMissing, 0)
		checkWrong(t, "nothing ahead of the farthest", []api.Token{again(1024, size)}, api.ErrMissing, 0)
		for _, n := range []int{1, 4, 100, api.MaxBack - 1} {
			checkWrong(t, "one too few", []api.Token{text(apart(n)), again(n+1, size)}, api.ErrMissing, 1)
		}
		checkWrong(t, "one too few of both", []api.Token{text("a"), again(1, 4), again(6, size)}, api.ErrMissing, 2)
		checkWrong(t, "its own don't count", []api.Token{text("abcd"), again(5, size), text("a")}, api.ErrMissing, 1)
	}
}

// Promises 4.2, P2, P3: ErrLimit: with the token there are more than MaxBody bytes.
func TestRightOfTooMuch(t *testing.T) {
	most := api.MaxBody
	checkWrong(t, "a text", []api.Token{text(apart(most + 1))}, api.ErrLimit, 0)
	checkWrong(t, "a long text", []api.Token{text(apart(10 * most))}, api.ErrLimit, 0)
	checkWrong(t, "a second text", []api.Token{text(apart(most)), text("a")}, api.ErrLimit, 1)
	checkWrong(t, "a second text of two", []api.Token{text(apart(most - 1)), text("ab")}, api.ErrLimit, 1)
	checkWrong(t, "no room", []api.Token{text(apart(most)), again(1, 4)}, api.ErrLimit, 1)
	checkWrong(t, "room for three", []api.Token{text(apart(most - 3)), again(1024, 4)}, api.ErrLimit, 1)
	checkWrong(t, "room for one fewer", []api.Token{text(apart(most - 66)), again(1, 67)}, api.ErrLimit, 1)
	l := []api.Token{text("a")}
	for range 298 {
		l = append(l, again(1, 67))
	}
	rest := most - 1 - 298*67
	checkRight(t, "just the most", append(l, text(apart(rest)))...)
	checkRight(t, "just the most", append(l, again(7, rest))...)
	checkWrong(t, "a byte more", append(l, text(apart(rest+1))), api.ErrLimit, 299)
	checkWrong(t, "a byte more", append(l, again(7, rest+1)), api.ErrLimit, 299)
	checkWrong(t, "a byte more behind", append(l, again(7, rest), text("a")), api.ErrLimit, 300)
}

// Promises 4.2, P3: the first token that is wrong is told, whatever is wrong with those behind it.
func TestRightTellsTheFirst(t *testing.T) {
	wrong := []struct {
		token api.Token
		want  api.Errno
	}{
		{api.Token{}, api.ErrArg},
		{text(apart(api.MaxBody)), api.ErrLimit},
		{again(1, 3), api.ErrRange},
		{again(6, 4), api.ErrMissing},
	}
	for _, x := range wrong {
		for _, y := range wrong {
			checkWrong(t, "two are wrong", []api.Token{text("abcd"), x.token, y.token}, x.want, 1)
			checkWrong(t, "two are wrong, one between", []api.Token{text("a"), x.token, text("a"), y.token}, x.want, 1)
		}
	}
}

// Promise 4.2: what tokens make.
func TestTextOfTokens(t *testing.T) {
	checkText(t, "nothing", "")
	checkText(t, "a text", "a", text("a"))
	checkText(t, "texts", "ab\x00\xffc", text("ab"), text("\x00\xff"), text("c"))
	checkText(t, "example", "abcabcabc", text("abc"), again(3, 6))
	checkText(t, "not whole times", "abababa", text("ab"), again(2, 5))
	checkText(t, "one byte", strings.Repeat("a", 68), text("a"), again(1, 67))
	checkText(t, "not the nearest", "abcdefabcd", text("abcdef"), again(6, 4))
	checkText(t, "from its midst", "abcdefbcdeef", text("abcdef"), again(5, 4), text("ef"))
	checkText(t, "of what was repeated", "abcdabcdabcd", text("abcd"), again(4, 4), again(8, 4))
	far := apart(api.MaxBack)
	checkText(t, "the farthest", far+far[:67], text(far), again(api.MaxBack, 67))
	checkText(t, "the farthest behind more", "x"+far+far[:67], text("x"), text(far), again(api.MaxBack, 67))
	checkText(t, "the most", apart(api.MaxBody), text(apart(api.MaxBody)))
}

// Promise 4.2: the bytes that go back come round and round.
func TestTextComesRound(t *testing.T) {
	for n := 1; n <= 150; n++ {
		s := mixed(n, n, 26)
		for size := api.MinSize; size <= api.MaxSize; size++ {
			for _, back := range []int{1, (n + 1) / 2, n} {
				round := strings.Repeat(s[n-back:], size/back+1)
				checkText(t, "round", s+round[:size]+"-", text(s), again(back, size), text("-"))
			}
		}
	}
}

// Promise P4: no list is written into, nor what stands behind its length.
func TestListsStayAsTheyAre(t *testing.T) {
	for _, l := range [][]api.Token{
		{text("abc"), again(3, 6), text("d"), again(1, 4)},
		{text("abc"), again(4, 6), text("d"), again(1, 4)},
	} {
		was := slices.Clone(l)
		match.Right(l[:2])
		match.Text(l[:2])
		match.Right(l)
		match.Text(l)
		if !slices.Equal(l, was) {
			t.Errorf("tokens are %v now; they were %v", l, was)
		}
	}
}

// Promise P4: what comes out is fresh memory, and the caller's.
func TestAnswersAreFresh(t *testing.T) {
	const want = "abcd-abcd+"
	bytes := []byte(want)
	s := unsafe.String(&bytes[0], len(bytes))
	first, second := match.Tokens(s), match.Tokens(s)
	first[0] = text("other")
	alone, _ := match.Text([]api.Token{text(s)})
	more, _ := match.Text([]api.Token{text(s), again(5, 4)})
	clear(bytes)
	if !slices.Equal(second, []api.Token{text("abcd-"), again(5, 4), text("+")}) {
		t.Errorf("Tokens are %v now", second)
	}
	if alone != want || more != want+"abcd" {
		t.Errorf("texts are %q and %q now", alone, more)
	}
}
