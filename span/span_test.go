package span_test

import (
	"math"
	"slices"
	"strings"
	"testing"
	"unsafe"

	"packtrain/api"
	"packtrain/plain"
	"packtrain/span"
)

// written are texts, and what is to stand ahead of them.
var written = []struct{ ahead, text string }{
	{"\x00", ""},
	{"\x01", "a"},
	{"\x02", "ab"},
	{"\x01", "\x00"},
	{"\x04", "\xff\x80\x00\n"},
	{"\x02", "\u00e4"},
	{"\x7f", strings.Repeat("x", 127)},
	{"\x80\x01", strings.Repeat("x", 128)},
	{"\xcf\x0f", strings.Repeat("x", api.MaxSpan-1)},
	{"\xd0\x0f", strings.Repeat("x", api.MaxSpan)},
}

// wrong are texts that no text with its length ahead begins, and what is told of them.
var wrong = []struct {
	name, s string
	want    api.Errno
}{
	{"nothing", "", api.ErrMissing},
	{"a length without an end", "\x80", api.ErrMissing},
	{"a length with a last nought", "\x80\x00", api.ErrForm},
	{"a length with a last nought, and a text", "\x81\x00a", api.ErrForm},
	{"a length above 64 bits", strings.Repeat("\xff", 9) + "\x02", api.ErrLimit},
	{"a length without a text", "\x01", api.ErrMissing},
	{"a byte too few", "\x02a", api.ErrMissing},
	{"a byte too few of the most", "\xd0\x0f" + strings.Repeat("x", api.MaxSpan-1), api.ErrMissing},
	{"no byte of the most", "\xd0\x0f", api.ErrMissing},
	{"one above the most", "\xd1\x0f" + strings.Repeat("x", api.MaxSpan+1), api.ErrLimit},
	{"one above the most, and no byte", "\xd1\x0f", api.ErrLimit},
	{"a length of 2^63", strings.Repeat("\x80", 9) + "\x01", api.ErrLimit},
	{"the greatest length", strings.Repeat("\xff", 9) + "\x01", api.ErrLimit},
}

// checkError asks for an error, and its place (-1: none).
func checkError(t *testing.T, name string, err error, want api.Errno, at int) {
	t.Helper()
	e, place := plain.Place(err)
	if e != want || place != at {
		t.Errorf("%s: error %d at %d; want %d at %d", name, e, place, want, at)
	}
}

// checkGet asks for a text and its bytes.
func checkGet(t *testing.T, s, want string, size int) {
	t.Helper()
	text, k, err := span.Get(s)
	if text != want || k != size || err != nil {
		t.Errorf("Get(%.20q..) = %.20q.., %d, %v; want %.20q.., %d", s, text, k, err, want, size)
	}
}

// Promises 2.1, P5: how texts are written.
func TestPutWrites(t *testing.T) {
	for _, x := range written {
		s, err := span.Put(x.text)
		if s != x.ahead+x.text || err != nil {
			t.Errorf("Put(%.20q..) = %.20q.., %v; want %q ahead", x.text, s, err, x.ahead)
		}
	}
}

// Promises 2.1, P2, P3: a text that is too long is not written.
func TestPutHasALimit(t *testing.T) {
	for _, n := range []int{api.MaxSpan + 1, api.MaxSpan + 2, 1 << 20} {
		s, err := span.Put(strings.Repeat("x", n))
		checkError(t, "too long", err, api.ErrLimit, -1)
		if s != "" {
			t.Errorf("Put of %d bytes = %.20q.. with an error", n, s)
		}
	}
}

// Promises 2.1, P5: what is written is read, whatever stands behind.
func TestGetReadsWhatIsWritten(t *testing.T) {
	for _, x := range written {
		for _, rest := range []string{"", "\x00", "\x80", "rest"} {
			s := x.ahead + x.text
			checkGet(t, s+rest, x.text, len(s))
		}
	}
}

// Promise 2.1: no beginning of a written text is one.
func TestGetMissesTheEnd(t *testing.T) {
	for _, x := range written {
		s := x.ahead + x.text
		for i := range len(s) {
			text, k, err := span.Get(s[:i])
			checkError(t, "a beginning", err, api.ErrMissing, -1)
			if text != "" || k != 0 {
				t.Errorf("Get of %d bytes of %d = %.20q.., %d with an error", i, len(s), text, k)
			}
		}
	}
}

// Promises 2.1, P2, P3: what is wrong; all else is nothing then.
func TestGetTellsWhatIsWrong(t *testing.T) {
	for _, x := range wrong {
		text, k, err := span.Get(x.s)
		checkError(t, x.name, err, x.want, -1)
		if text != "" || k != 0 {
			t.Errorf("%s: %.20q.., %d with an error", x.name, text, k)
		}
	}
}

// Promises 2.1, P1: whatever stands ahead, a text that is read is written so, and what is not read is told.
func TestGetKnowsOneWayAlone(t *testing.T) {
	for c := range 1 << 16 {
		s := string([]byte{byte(c % 256), byte(c / 256)}) + strings.Repeat("x", 200)
		text, k, err := span.Get(s)
		if err != nil {
			if text != "" || k != 0 {
				t.Errorf("Get of %x.. = %q, %d with an error", s[:2], text, k)
			}
			continue
		}
		if back, err := span.Put(text); err != nil || back != s[:k] {
			t.Errorf("Put of Get of %x.. = %.20q.., %v", s[:2], back, err)
		}
	}
}

// checkAll asks for texts and their bytes.
func checkAll(t *testing.T, s string, n int, want []string, size int) {
	t.Helper()
	l, k, err := span.All(s, n)
	if !slices.Equal(l, want) || k != size || err != nil {
		t.Errorf("All(%.20q.., %d) = %.20q.., %d, %v; want %.20q.., %d", s, n, l, k, err, want, size)
	}
}

// Promise 2.1: texts, one behind the other.
func TestAllReadsOneBehindTheOther(t *testing.T) {
	checkAll(t, "\x01a\x00\x01b", 3, []string{"a", "", "b"}, 5)
	checkAll(t, "\x01a\x00\x01b", 2, []string{"a", ""}, 3)
	checkAll(t, "\x01a\x00\x01brest", 3, []string{"a", "", "b"}, 5)
	checkAll(t, "\x01a\x80\x00", 1, []string{"a"}, 2)
	var s strings.Builder
	var want []string
	for _, x := range written {
		s.WriteString(x.ahead + x.text)
		want = append(want, x.text)
	}
	checkAll(t, s.String(), len(want), want, s.Len())
	checkAll(t, s.String()+"\xff", len(want), want, s.Len())
}

// Promise 2.1: none of n below 1, whatever stands there.
func TestAllOfNone(t *testing.T) {
	for _, n := range []int{0, -1, math.MinInt} {
		for _, s := range []string{"", "\x01a", "\x80\x00", "\xff"} {
			checkAll(t, s, n, nil, 0)
		}
	}
}

// Promise 2.1: as many texts as are promised.
func TestAllOfVeryMany(t *testing.T) {
	const n = 1 << 20
	l, k, err := span.All(strings.Repeat("\x00", n), n)
	if len(l) != n || k != n || err != nil {
		t.Errorf("%d texts of %d bytes, %v; want %d of %d", len(l), k, err, n, n)
	}
	_, _, err = span.All(strings.Repeat("\x00", n-1), n)
	checkError(t, "one too few", err, api.ErrMissing, n-1)
}

// Promises 2.1, P2, P3: what is wrong, and with which text; all else is nothing then.
func TestAllTellsWhatIsWrongAndWhere(t *testing.T) {
	for _, x := range wrong {
		for i, ahead := range []string{"", "\x01a", "\x01a\x00", "\x01a\x00\x02bc"} {
			l, k, err := span.All(ahead+x.s, i+1)
			checkError(t, x.name, err, x.want, i)
			if len(l) != 0 || k != 0 {
				t.Errorf("%s: %q, %d with an error", x.name, l, k)
			}
		}
	}
}

// Promises 2.1, P3: the first text that is wrong is told, and none behind the last one.
func TestAllTellsTheFirst(t *testing.T) {
	_, _, err := span.All("\x01a\x80\x00\xd1\x0f", 3)
	checkError(t, "two are wrong", err, api.ErrForm, 1)
	_, _, err = span.All("\xd1\x0f\x80\x00", 2)
	checkError(t, "two are wrong", err, api.ErrLimit, 0)
	checkAll(t, "\x01a\x01b\x80\x00", 2, []string{"a", "b"}, 4)
}

// Promise P1: more texts than there may be are not there, and asking for them ends.
func TestAllEnds(t *testing.T) {
	_, _, err := span.All("\x01a\x01b", math.MaxInt)
	checkError(t, "too many", err, api.ErrMissing, 2)
}

// Promise P4: what comes out is fresh memory, and the caller's.
func TestAnswersAreFresh(t *testing.T) {
	bytes := []byte("\x02ab\x02cd")
	s := unsafe.String(&bytes[0], len(bytes))
	text, _, _ := span.Get(s)
	first, _, _ := span.All(s, 2)
	second, _, _ := span.All(s, 2)
	first[0] = "other"
	clear(bytes)
	if text != "ab" {
		t.Errorf("Get's text is %q now", text)
	}
	if !slices.Equal(second, []string{"ab", "cd"}) {
		t.Errorf("All's texts are %q now", second)
	}
}
