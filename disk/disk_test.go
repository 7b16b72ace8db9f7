package disk_test

import (
	"fmt"
	"math"
	"slices"
	"strings"
	"testing"
	"unsafe"

	"packtrain/api"
	"packtrain/disk"
	"packtrain/plain"
)

// all is a mask by which everything lasts.
const all = math.MaxUint64

// x is a text of so many bytes.
func x(n int) string { return strings.Repeat("x", n) }

// full is what a sector has that a text was written to.
func full(s string) string { return s + strings.Repeat("\x00", 32-len(s)) }

// made is a disk of so many sectors.
func made(t *testing.T, n int) *disk.Disk {
	t.Helper()
	d, err := disk.New(n)
	if d == nil || err != nil {
		t.Fatalf("New(%d) = %v, %v; want a disk", n, d, err)
	}
	return d
}

// write writes a text that may be written.
func write(t *testing.T, d *disk.Disk, at int, s string) {
	t.Helper()
	if err := d.Write(at, s); err != nil {
		t.Fatalf("Write(%d, %q) = %v; want no error", at, s, err)
	}
}

// checkNotNew asks for an error, and no disk with it.
func checkNotNew(t *testing.T, n int, want api.Errno) {
	t.Helper()
	d, err := disk.New(n)
	if e, place := plain.Place(err); e != want || place != -1 || d != nil {
		t.Errorf("New(%d) = %v, error %d at %d; want error %d", n, d, e, place, want)
	}
}

// checkNotWrite asks for an error, and that nothing was written.
func checkNotWrite(t *testing.T, d *disk.Disk, at int, s string, want api.Errno) {
	t.Helper()
	dirty := d.Dirty()
	if e, place := plain.Place(d.Write(at, s)); e != want || place != -1 {
		t.Errorf("Write(%d, a text of %d bytes) = error %d at %d; want error %d", at, len(s), e, place, want)
	}
	if got := d.Dirty(); !slices.Equal(got, dirty) {
		t.Errorf("Dirty() behind an error = %v; want %v", got, dirty)
	}
}

// checkRead asks for what a sector has: a text, and noughts behind.
func checkRead(t *testing.T, name string, d *disk.Disk, at int, want string) {
	t.Helper()
	if s, err := d.Read(at); s != full(want) || err != nil {
		t.Errorf("%s: Read(%d) = %q, %v; want %q", name, at, s, err, full(want))
	}
}

// checkAll asks for what the first sectors have.
func checkAll(t *testing.T, name string, d *disk.Disk, want ...string) {
	t.Helper()
	for at, s := range want {
		checkRead(t, name, d, at, s)
	}
}

// checkNotRead asks for an error, and nothing with it.
func checkNotRead(t *testing.T, d *disk.Disk, at int, want api.Errno) {
	t.Helper()
	s, err := d.Read(at)
	if e, place := plain.Place(err); e != want || place != -1 || s != "" {
		t.Errorf("Read(%d) = %q, error %d at %d; want error %d", at, s, e, place, want)
	}
}

// checkDirty asks for those that were written.
func checkDirty(t *testing.T, name string, d *disk.Disk, want ...int) {
	t.Helper()
	if got := d.Dirty(); !slices.Equal(got, want) {
		t.Errorf("%s: Dirty() = %v; want %v", name, got, want)
	}
}

// Promise 17.1: a new one has so many sectors of 0, and nothing was written.
func TestNew(t *testing.T) {
	for n := range 141 {
		d := made(t, n)
		for at := range n {
			checkRead(t, "new", d, at, "")
		}
		for _, at := range []int{-1, n, n + 1} {
			checkNotRead(t, d, at, api.ErrRange)
			checkNotWrite(t, d, at, "a", api.ErrRange)
		}
		checkDirty(t, "new", d)
	}
}

// Promises 17.1, P2, P3: there is no disk of fewer sectors than none, nor of more than MaxSectors.
func TestNewTellsOfTooMany(t *testing.T) {
	for _, n := range []int{math.MinInt, -1 << 32, -141, -2, -1, 141, 142, 256, 1 << 32, 1<<32 + 1, math.MaxInt} {
		checkNotNew(t, n, api.ErrRange)
	}
}

// Promises 17.1, P2, P3: there is no such sector, be there none at all, one, or all.
func TestThereIsNoSuchSector(t *testing.T) {
	for _, n := range []int{0, 1, 2, 64, 139, 140} {
		d := made(t, n)
		for _, at := range []int{math.MinInt, -1 << 32, -n - 1, -1, n, n + 1, 140, 1 << 32, math.MaxInt} {
			checkNotRead(t, d, at, api.ErrRange)
			for _, size := range []int{0, 1, 32} {
				checkNotWrite(t, d, at, x(size), api.ErrRange)
			}
		}
	}
}

// Promises 17.1, P3: a text is too long; that there is no sector is told ahead.
func TestTooLong(t *testing.T) {
	d := made(t, 2)
	write(t, d, 0, "old")
	d.Sync()
	write(t, d, 1, "new")
	for _, size := range []int{33, 34, 64, 288, 1 << 20} {
		for _, at := range []int{0, 1} {
			checkNotWrite(t, d, at, x(size), api.ErrLimit)
			checkNotWrite(t, d, at, strings.Repeat("\x00", size), api.ErrLimit)
		}
		for _, at := range []int{-1, 2} {
			checkNotWrite(t, d, at, x(size), api.ErrRange)
		}
		checkAll(t, "too long", d, "old", "new")
		checkDirty(t, "too long", d, 1)
	}
}

// Promise 17.1: a sector has what was written, of each length that may be, and 0 behind, whatever it had.
func TestWriteOfEachLength(t *testing.T) {
	long := "\xff\x00\n\x80abcdefghijklmnopqrstuvwxyz01"
	for size := range 33 {
		d := made(t, 3)
		for at, old := range []string{"", "old", x(32)} {
			write(t, d, at, old)
		}
		d.Sync()
		for at := range 3 {
			write(t, d, at, long[:size])
		}
		checkAll(t, "written", d, long[:size], long[:size], long[:size])
		d.Sync()
		checkAll(t, "synced", d, long[:size], long[:size], long[:size])
		write(t, d, 1, x(32))
		write(t, d, 1, long[:size])
		checkRead(t, "written twice", d, 1, long[:size])
	}
}

// Promise 17.1: each sector of a disk of all is its own.
func TestSectorsAreApart(t *testing.T) {
	d := made(t, 140)
	for at := range 140 {
		write(t, d, at, fmt.Sprint("sector ", at))
		if at < 139 {
			checkRead(t, "not yet", d, at+1, "")
		}
	}
	for at := range 140 {
		checkRead(t, "written", d, at, fmt.Sprint("sector ", at))
	}
}

// Promise 17.1: the Dirty ones are those that were written, rising, each once, in whichever order it was; to what they had, too.
func TestDirty(t *testing.T) {
	for _, l := range [][]int{{0}, {139}, {0, 1}, {1, 0}, {5, 3, 4}, {139, 0, 70}, {2, 2, 2}, {9, 10, 100, 11}, {3, 1, 3, 2, 1}} {
		d := made(t, 140)
		for _, at := range l {
			write(t, d, at, "")
		}
		want := slices.Compact(slices.Sorted(slices.Values(l)))
		checkDirty(t, "written", d, want...)
		checkDirty(t, "asked again", d, want...)
		for at := range 140 {
			checkRead(t, "only read", d, at, "")
		}
		checkDirty(t, "read", d, want...)
		d.Sync()
		checkDirty(t, "synced", d)
	}
	d := made(t, 140)
	var want []int
	for i := range 140 {
		write(t, d, i*89%140, "a")
		want = append(want, i)
	}
	checkDirty(t, "all", d, want...)
	d.Crash(all)
	checkDirty(t, "crashed, and all lasts", d)
	write(t, d, 7, "a")
	checkDirty(t, "what it has", d, 7)
	d.Crash(0)
	checkDirty(t, "crashed, and nothing lasts", d)
}

// Promise 17.1: what was synced lasts, whatever comes; what wasn't doesn't.
func TestSync(t *testing.T) {
	d := made(t, 3)
	write(t, d, 0, "a")
	write(t, d, 1, "b")
	d.Sync()
	checkAll(t, "synced", d, "a", "b", "")
	d.Crash(0)
	checkAll(t, "nothing since", d, "a", "b", "")
	write(t, d, 1, "c")
	write(t, d, 2, "d")
	checkAll(t, "written", d, "a", "c", "d")
	d.Crash(0)
	checkAll(t, "lost", d, "a", "b", "")
	d.Sync()
	checkAll(t, "what was lost isn't synced", d, "a", "b", "")
	write(t, d, 1, "c")
	d.Sync()
	d.Sync()
	d.Crash(0)
	checkAll(t, "synced twice", d, "a", "c", "")
}

// Promise 17.1: which of the Dirty ones last hangs on how many Dirty ones are ahead, not on which sectors they are, nor on when they were written.
func TestCrashOfAFew(t *testing.T) {
	for mask := range uint64(16) {
		for _, above := range []uint64{0, 16, 1 << 63, all &^ 15} {
			d := made(t, 140)
			for _, at := range []int{8, 3, 139, 5} {
				write(t, d, at, "old")
			}
			d.Sync()
			for _, at := range []int{139, 5, 3} {
				write(t, d, at, fmt.Sprint("new ", at))
			}
			d.Crash(mask | above)
			for i, at := range []int{3, 5, 139} {
				want := "old"
				if mask>>i&1 == 1 {
					want = fmt.Sprint("new ", at)
				}
				checkRead(t, fmt.Sprintf("mask %x", mask|above), d, at, want)
			}
			checkRead(t, "not written since", d, 8, "old")
			checkDirty(t, "crashed", d)
		}
	}
}

// Promise 17.1: what doesn't last is as it was ahead of all writes since, not ahead of the last one; what does is as it was written last.
func TestCrashOfWhatWasWrittenTwice(t *testing.T) {
	d := made(t, 2)
	write(t, d, 0, "a")
	write(t, d, 1, "b")
	d.Crash(all)
	checkAll(t, "lasts", d, "a", "b")
	for _, s := range []string{"c", "d", "e"} {
		write(t, d, 0, s)
		write(t, d, 1, s+s)
	}
	d.Crash(2)
	checkAll(t, "the other one lasts", d, "a", "ee")
	write(t, d, 0, "f")
	d.Crash(1)
	checkAll(t, "the one lasts", d, "f", "ee")
	write(t, d, 0, "g")
	write(t, d, 1, "h")
	d.Crash(0)
	checkAll(t, "none lasts", d, "f", "ee")
	d.Crash(all)
	checkAll(t, "what was lost doesn't last", d, "f", "ee")
	write(t, d, 0, "")
	d.Crash(0)
	checkAll(t, "noughts", d, "f", "ee")
	write(t, d, 0, "")
	d.Crash(1)
	checkAll(t, "noughts last", d, "", "ee")
}

// Promise 17.1: each bit tells of one sector alone; the highest one of the 64th, and of all behind it.
func TestCrashOfEachBit(t *testing.T) {
	for _, n := range []int{1, 2, 32, 33, 63, 64, 65, 66, 100, 128, 129, 140} {
		for bit := range 64 {
			for _, mask := range []uint64{1 << bit, ^uint64(1 << bit)} {
				d := made(t, 140)
				for at := 139; at >= 140-n; at-- {
					write(t, d, at, "new")
				}
				d.Crash(mask)
				for i := range n {
					want := ""
					if mask>>min(i, 63)&1 == 1 {
						want = "new"
					}
					checkRead(t, fmt.Sprintf("%d Dirty ones, mask %x", n, mask), d, 140-n+i, want)
				}
			}
		}
	}
}

// spelled is what was done to a disk, and to which end, from the beginning on.
type spelled struct {
	size int
	done []done
}

// done is a write, or, if mask has a value, a crash.
type done struct {
	at   int
	s    string
	mask *uint64
}

// dirty are the sectors that some of what was done wrote to.
func dirty(l []done) []int {
	var out []int
	for at := range 140 {
		if slices.ContainsFunc(l, func(w done) bool { return w.at == at }) {
			out = append(out, at)
		}
	}
	return out
}

// cells are what all sectors have, and which are Dirty: all is done again, from crash to crash.
func (p *spelled) cells() ([]string, []int) {
	lasting := make([]string, p.size)
	for at := range lasting {
		lasting[at] = full("")
	}
	now, since := slices.Clone(lasting), []done(nil)
	for _, w := range p.done {
		if w.mask == nil {
			now[w.at] = full(w.s)
			since = append(since, w)
			continue
		}
		for i, at := range dirty(since) {
			if i > 63 {
				i = 63
			}
			if *w.mask&(1<<i) != 0 {
				lasting[at] = now[at]
			}
		}
		now, since = slices.Clone(lasting), nil
	}
	return now, dirty(since)
}

// chance is a row of numbers without a rule.
type chance uint64

// next is one of so many numbers from 0 on.
func (c *chance) next(n int) int {
	*c = *c*6364136223846793005 + 1442695040888963407
	return int(uint64(*c) >> 33 % uint64(n))
}

// mask is any of 64 bits.
func (c *chance) mask() uint64 {
	return uint64(c.next(1<<22))<<42 | uint64(c.next(1<<21))<<21 | uint64(c.next(1<<21))
}

// Promise 17.1: what is done by chance to disks of any size, against the promise spelled out.
func TestDisksAgainstThePromise(t *testing.T) {
	for i := range 120 {
		c := chance(i)
		size := []int{1, 2, 3, 7, 40, 70, 140}[i%7]
		d, p := made(t, size), &spelled{size: size}
		for range 30 {
			for range c.next(2 * size) {
				at, s := c.next(size), x(c.next(33))
				if c.next(3) == 0 {
					s = fmt.Sprint("number ", c.next(100))
				}
				write(t, d, at, s)
				p.done = append(p.done, done{at: at, s: s})
			}
			got, gotDirty := make([]string, size), d.Dirty()
			for at := range got {
				got[at], _ = d.Read(at)
			}
			want, wantDirty := p.cells()
			if !slices.Equal(got, want) || !slices.Equal(gotDirty, wantDirty) {
				t.Fatalf("disk %d of %d: %q, %v; want %q, %v", i, size, got, gotDirty, want, wantDirty)
			}
			switch mask := c.mask(); c.next(4) {
			case 0:
				mask = all
				d.Sync()
				p.done = append(p.done, done{at: -1, mask: &mask})
			case 1, 2:
				d.Crash(mask)
				p.done = append(p.done, done{at: -1, mask: &mask})
			}
		}
	}
}

// Promise P1: whatever a disk is told, each call ends, and the next one, too.
func TestWhateverItIsTold(t *testing.T) {
	numbers := []int{math.MinInt, -1 << 40, -141, -1, 0, 1, 31, 32, 33, 63, 64, 139, 140, 141, 1 << 40, math.MaxInt}
	for _, n := range numbers {
		d, err := disk.New(n)
		if (d == nil) != (err != nil) {
			t.Errorf("New(%d) = %v, %v", n, d, err)
		}
		if d == nil {
			continue
		}
		for _, at := range numbers {
			for _, size := range []int{0, 1, 32, 33, 1000} {
				if err := d.Write(at, x(size)); (err == nil) != (at >= 0 && at < n && size < 33) {
					t.Errorf("Write(%d, a text of %d bytes) = %v, of %d sectors", at, size, err, n)
				}
			}
			if s, err := d.Read(at); (err == nil) != (at >= 0 && at < n) || (err == nil) != (len(s) == 32) {
				t.Errorf("Read(%d) = %q, %v, of %d sectors", at, s, err, n)
			}
		}
		for _, mask := range []uint64{0, 1, 1 << 63, all} {
			d.Crash(mask)
			d.Sync()
			checkDirty(t, "nothing written", d)
		}
	}
}

// Promise P4: disks have nothing in common.
func TestDisksAreApart(t *testing.T) {
	a, b := made(t, 2), made(t, 2)
	write(t, a, 0, "a")
	checkRead(t, "the other one", b, 0, "")
	checkDirty(t, "the other one", b)
	b.Sync()
	checkDirty(t, "the one", a, 0)
	a.Sync()
	checkRead(t, "the other one, synced", b, 0, "")
	checkRead(t, "the one, synced", a, 0, "a")
}

// Promise P4: a text that is handed in isn't kept.
func TestTextsAreNotKept(t *testing.T) {
	for _, size := range []int{1, 31, 32} {
		for _, settle := range []func(*disk.Disk){func(*disk.Disk) {}, (*disk.Disk).Sync, func(d *disk.Disk) { d.Crash(1) }} {
			b := []byte(x(size))
			d := made(t, 1)
			write(t, d, 0, unsafe.String(&b[0], len(b)))
			clear(b)
			checkRead(t, "changed then", d, 0, x(size))
			write(t, d, 0, unsafe.String(&b[0], len(b)))
			settle(d)
			b[0] = 'y'
			checkRead(t, "noughts that were changed then", d, 0, "")
		}
	}
}

// spoil writes into a text.
func spoil(s string) { unsafe.Slice(unsafe.StringData(s), len(s))[0] = '?' }

// Promise P4: what comes out is the caller's: what is done to it isn't done to the disk, nor to what came out ahead.
func TestAnswersAreFresh(t *testing.T) {
	d := made(t, 3)
	write(t, d, 0, x(32))
	write(t, d, 1, "a")
	d.Sync()
	write(t, d, 1, x(32))
	for at, want := range []string{x(32), x(32), ""} {
		one, _ := d.Read(at)
		two, _ := d.Read(at)
		spoil(one)
		if two != full(want) {
			t.Errorf("Read(%d) shares its memory with another one", at)
		}
		checkRead(t, "spoilt", d, at, want)
	}
	write(t, d, 2, "")
	one := d.Dirty()
	two := d.Dirty()
	one[0], one[1] = 7, 8
	_ = append(one[:0], 9)
	if !slices.Equal(two, []int{1, 2}) {
		t.Errorf("Dirty() shares its memory with another one")
	}
	checkDirty(t, "spoilt", d, 1, 2)
	d.Crash(2)
	checkAll(t, "spoilt", d, x(32), "a", "")
}

// Promise P4: what came out stays as it is, whatever is done to the disk.
func TestAnswersStay(t *testing.T) {
	d := made(t, 1)
	write(t, d, 0, "a")
	s, _ := d.Read(0)
	l := d.Dirty()
	write(t, d, 0, "b")
	d.Sync()
	write(t, d, 0, "c")
	d.Crash(0)
	if s != full("a") || !slices.Equal(l, []int{0}) {
		t.Errorf("what came out is %q and %v now", s, l)
	}
	checkRead(t, "synced", d, 0, "b")
}
