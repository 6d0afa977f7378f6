package disk

import (
	"math"
	"slices"
	"testing"

	"pledge/api"
)

// P9.1: New

func TestNewIsBlank(t *testing.T) {
	for _, n := range []int{0, 1, 2, 255, 256, 1023, 1024} {
		for _, size := range []int{0, 1, 64, 255, 257} {
			d := New(n, size, 64, 100)
			has(t, "a new disk", d, blank(n, size, 64, 100))
			surely(t, "a new disk", d, blank(n, size, 64, 100))
		}
	}
	has(t, "the greatest of all", New(1024, 4096, 4096, 1<<20), blank(1024, 4096, 4096, 1<<20))
}

func TestNewKeepsTheVolumesNumbers(t *testing.T) {
	for _, n := range below() {
		has(t, "blocks below 0", New(n, 5, 64, 9), blank(0, 5, 64, 9))
		has(t, "bytes below 0", New(3, n, 64, 9), blank(3, 0, 64, 9))
	}
	for _, n := range append(far(), 1025) {
		has(t, "blocks beyond", New(n, 5, 64, 9), blank(1024, 5, 64, 9))
	}
	for _, n := range append(far(), 4097) {
		has(t, "bytes beyond", New(3, n, 64, 9), blank(3, 4096, 64, 9))
	}
}

func TestNewKeepsTheSegmentsSize(t *testing.T) {
	sizes := map[int]int{64: 64, 65: 65, 100: 100, 4095: 4095, 4096: 4096, 63: 64, 1: 64, 0: 64, 4097: 4096, 8192: 4096}
	for _, n := range below() {
		sizes[n] = 64
	}
	for _, n := range far() {
		sizes[n] = 4096
	}
	for asked, seg := range sizes {
		d, m := New(1, 1, asked, 1<<20), blank(1, 1, seg, 1<<20)
		for _, n := range []int{1, seg - 1, 1, seg} {
			does(t, d, m, appends(text(n, n)))
			has(t, "grown", d, m)
		}
		does(t, d, m, drops(int64(seg-1)))
		has(t, "behind a Drop that is too short", d, m)
		does(t, d, m, drops(int64(2*seg)))
		has(t, "behind a Drop of two segments", d, m)
		m.crash(3, 0)
		d.Crash(3, 0)
		does(t, d, m, appends(text(0, 2*seg)))
		has(t, "grown behind a crash", d, m)
	}
}

func TestMost(t *testing.T) {
	mosts := map[int]int{0: 0, 1: 1, 63: 63, 64: 64, 65: 65, 255: 255, 256: 256, 65535: 65535, 65536: 65536, 1<<20 - 1: 1<<20 - 1, 1 << 20: 1 << 20, 1<<20 + 1: 1 << 20}
	for _, n := range below() {
		mosts[n] = 0
	}
	for _, n := range far() {
		mosts[n] = 1 << 20
	}
	for asked, most := range mosts {
		d := New(0, 0, 4096, asked)
		left := most
		for left > 0 {
			n := min(left, 65000)
			told(t, "Append", d.Append(make([]byte, n)), api.OK)
			left -= n
			if n = min(left+1, 65000); n > left {
				told(t, "Append of one more than there is room for", d.Append(make([]byte, n)), api.ErrFull)
			}
		}
		told(t, "Append of one, of a full tape", d.Append([]byte("x")), api.ErrFull)
		told(t, "Append of none, of a full tape", d.Append(nil), api.OK)
		if d.End() != int64(most) {
			t.Errorf("New with %d: %d bytes; want %d", asked, d.End(), most)
		}
		c := d.Copy()
		told(t, "Append of one, of a copy", c.Append([]byte("x")), api.ErrFull)
		c.Crash(math.MaxInt, 0)
		told(t, "Append of one, behind a crash that keeps all", c.Append([]byte("x")), api.ErrFull)
	}
}

func TestMostGoesFromFirstToEnd(t *testing.T) {
	d, m := New(1, 1, 64, 130), blank(1, 1, 64, 130)
	for _, c := range []call{
		appends(text(0, 130)), appends("x"), appends(""),
		drops(63), appends("x"), // no whole segment
		drops(64), appends(text(1, 65)), appends(text(2, 64)), appends("x"),
		cuts(193), appends("xy"), appends("z"), appends("x"),
		cuts(0), appends(text(3, 131)), appends(text(3, 130)), appends("x"),
		drops(1000), appends(text(4, 129)), appends(text(4, 128)), appends("x"),
	} {
		does(t, d, m, c)
		has(t, "in between", d, m)
		surely(t, "in between", d, m)
	}
	// What is only pending took room; behind a crash it takes none.
	d.Crash(0, 0)
	m.crash(0, 0)
	does(t, d, m, appends(text(5, 131)))
	does(t, d, m, appends(text(5, 130)))
	has(t, "behind a crash", d, m)
}

func TestMostTellsOfWhatIsSeen(t *testing.T) {
	d, m := New(1, 1, 64, 128), blank(1, 1, 64, 128)
	does(t, d, m, appends(text(0, 128)))
	d.Sync()
	m.sync()
	does(t, d, m, appends("x"))
	// Nothing of the Drop is sure, and there is room all the same.
	does(t, d, m, drops(64))
	does(t, d, m, appends(text(128, 64)))
	does(t, d, m, appends("x"))
	has(t, "room by a Drop that is pending", d, m)
	for keep := range 4 {
		c, cm := d.Copy(), m.copy()
		c.Crash(keep, 1)
		cm.crash(keep, 1)
		has(t, "crashed", c, cm)
		does(t, c, cm, appends("x"))
		does(t, c, cm, appends(text(0, 64)))
		has(t, "crashed, and grown", c, cm)
	}
}

// P9.1: Put, Append, Drop, Cut

func TestPutIsSeenAtOnceAndPending(t *testing.T) {
	d, m := New(3, 4, 64, 200), blank(3, 4, 64, 200)
	for _, c := range []call{puts(0, "abcd"), puts(2, "xy"), puts(0, "e"), puts(1, ""), puts(2, "\x00\xff"), puts(0, "fghi"), puts(0, "fghi")} {
		does(t, d, m, c)
		has(t, "behind a Put", d, m)
		surely(t, "behind a Put", d, m)
	}
	if d.Pending() != 7 {
		t.Errorf("%d are pending", d.Pending())
	}
}

func TestAppendIsSeenAtOnceAndPending(t *testing.T) {
	d, m := New(1, 1, 64, 300), blank(1, 1, 64, 300)
	for i, n := range []int{0, 1, 2, 61, 1, 1, 64, 0, 100} {
		does(t, d, m, appends(text(i, n)))
		has(t, "behind an Append", d, m)
		surely(t, "behind an Append", d, m)
	}
	if d.Pending() != 9 {
		t.Errorf("%d are pending", d.Pending())
	}
}

func TestDropAndCutAreSeenAtOnceAndPending(t *testing.T) {
	ats := []int64{math.MinInt64, -65, -1, 0, 1, 63, 64, 65, 127, 128, 129, 192, 193, 199, 200, 201, 256, 1 << 32, math.MaxInt64}
	for _, at := range ats {
		for _, c := range []call{drops(at), cuts(at)} {
			for _, sure := range []bool{true, false} {
				d, m := New(1, 1, 64, 300), blank(1, 1, 64, 300)
				does(t, d, m, appends(text(0, 200)))
				if sure {
					d.Sync()
					m.sync()
				}
				does(t, d, m, c)
				has(t, c.what, d, m)
				surely(t, c.what, d, m)
				does(t, d, m, c)
				does(t, d, m, appends("xyz"))
				has(t, "grown behind it", d, m)
				for _, again := range ats {
					e, em := d.Copy(), m.copy()
					does(t, e, em, drops(again))
					does(t, e, em, cuts(again))
					has(t, "dropped and cut once more", e, em)
					e.Sync()
					em.sync()
					has(t, "dropped and cut once more, and sure", e, em)
				}
			}
		}
	}
}

func TestWhatDoesNothingIsPendingToo(t *testing.T) {
	d := New(1, 0, 64, 0)
	told(t, "Put", d.Put(0, nil), api.OK)
	told(t, "Append", d.Append(nil), api.OK)
	d.Drop(5)
	d.Cut(5)
	if d.Pending() != 4 {
		t.Errorf("%d are pending", d.Pending())
	}
	d.Crash(0, 0)
	if d.Pending() != 0 {
		t.Errorf("%d are pending behind a crash", d.Pending())
	}
}

func TestVolumeAndTapeAreApart(t *testing.T) {
	d, m := New(2, 3, 64, 200), blank(2, 3, 64, 200)
	for _, c := range []call{appends(text(0, 100)), puts(0, "abc"), drops(64), puts(1, "x"), cuts(70), appends("abc"), puts(0, "yz")} {
		does(t, d, m, c)
		has(t, "in between", d, m)
	}
	d.Sync()
	m.sync()
	has(t, "sure", d, m)
}

func TestDisksAreApart(t *testing.T) {
	a, b, am := New(1, 2, 64, 9), New(1, 2, 64, 9), blank(1, 2, 64, 9)
	does(t, a, am, puts(0, "ab"))
	does(t, a, am, appends("cd"))
	has(t, "the other one", b, blank(1, 2, 64, 9))
	a.Sync()
	b.Sync()
	has(t, "the other one, behind a Sync", b, blank(1, 2, 64, 9))
}

// P9.1: errors

func TestErrorsOfPut(t *testing.T) {
	d, m := New(2, 4, 64, 9), blank(2, 4, 64, 9)
	for _, i := range append(odd(), 2, 3, 4, 1024) {
		for _, b := range []string{"", "abcd", "abcde", text(0, 5000)} {
			told(t, "Put of no block", d.Put(i, []byte(b)), api.ErrArg)
		}
	}
	for _, n := range []int{5, 6, 260, 4096, 65540} {
		told(t, "Put of too much", d.Put(1, make([]byte, n)), api.ErrLong)
	}
	has(t, "behind errors", d, m)
	does(t, d, m, puts(1, "abcd"))
	told(t, "Put of too much", d.Put(1, []byte("efghi")), api.ErrLong)
	has(t, "behind one more error", d, m)
	d.Sync()
	m.sync()
	has(t, "behind errors and a Sync", d, m)
	told(t, "Put where there are no blocks", New(0, 4, 64, 9).Put(0, nil), api.ErrArg)
	told(t, "Put where blocks have no bytes", New(1, 0, 64, 9).Put(0, []byte("x")), api.ErrLong)
}

func TestErrorsOfAppend(t *testing.T) {
	cases := []struct {
		most, was, n int
		e            api.Errno
	}{
		{1 << 20, 0, 65535, api.OK}, {1 << 20, 0, 65536, api.OK}, {1 << 20, 0, 65537, api.ErrLong}, {1 << 20, 0, 1 << 17, api.ErrLong}, {1 << 20, 0, 1 << 20, api.ErrLong},
		{1 << 20, 100, 65536, api.OK}, {1 << 20, 100, 65537, api.ErrLong}, {65536, 0, 65536, api.OK}, {65535, 0, 65536, api.ErrFull}, {65536, 1, 65536, api.ErrFull},
		// Both errors: ErrLong is named first.
		{65536, 0, 65537, api.ErrLong}, {6, 0, 65537, api.ErrLong}, {0, 0, 65537, api.ErrLong}, {6, 6, 1 << 20, api.ErrLong},
		{6, 0, 6, api.OK}, {6, 0, 7, api.ErrFull}, {6, 5, 1, api.OK}, {6, 5, 2, api.ErrFull}, {6, 6, 1, api.ErrFull}, {6, 6, 0, api.OK}, {0, 0, 0, api.OK}, {0, 0, 1, api.ErrFull},
	}
	for _, c := range cases {
		d, m := New(1, 1, 64, c.most), blank(1, 1, 64, c.most)
		does(t, d, m, appends(text(0, c.was)))
		d.Sync()
		m.sync()
		b := text(c.was, c.n)
		told(t, "Append", d.Append([]byte(b)), c.e)
		if c.e == api.OK {
			m.pending = append(m.pending, appends(b))
		}
		has(t, "behind an Append", d, m)
		d.Sync()
		m.sync()
		has(t, "behind an Append and a Sync", d, m)
	}
}

func TestWhatHasAnErrorIsNoneOfThoseThatAreKept(t *testing.T) {
	d, m := New(1, 2, 64, 4), blank(1, 2, 64, 4)
	for _, c := range []call{appends("ab"), appends("cde"), puts(1, "x"), appends("cd"), puts(0, "xyz"), appends("e"), puts(0, "xy")} {
		does(t, d, m, c)
	}
	for keep := range 5 {
		for tear := range 3 {
			c, cm := d.Copy(), m.copy()
			c.Crash(keep, tear)
			cm.crash(keep, tear)
			has(t, "crashed", c, cm)
		}
	}
	if d.Pending() != 3 {
		t.Errorf("%d are pending", d.Pending())
	}
}

// P9.1, Rule 4: memory

func TestNothingIsKeptOfWhatIsHandedIn(t *testing.T) {
	d, m := New(2, 4, 64, 200), blank(2, 4, 64, 200)
	room := []byte(text(0, 100))
	for _, b := range [][]byte{room[:4], room[4:6], room[6:6]} {
		told(t, "Put", d.Put(1, b), api.OK)
		m.pending = append(m.pending, puts(1, string(b)))
	}
	for _, b := range [][]byte{room[10:20], room[20:90], room[90:91:91]} {
		told(t, "Append", d.Append(b), api.OK)
		m.pending = append(m.pending, appends(string(b)))
	}
	c, e := d.Copy(), d.Copy()
	clear(room)
	has(t, "behind a change of what was handed in", d, m)
	d.Sync()
	m2 := m.copy()
	m2.sync()
	has(t, "behind a change of what was handed in, and a Sync", d, m2)
	c.Crash(1, 2)
	m2 = m.copy()
	m2.crash(1, 2)
	has(t, "behind a change of what was handed in, and a crash", c, m2)
	e.Crash(4, 33)
	m.crash(4, 33)
	has(t, "behind a change of what was handed in, and a crash in an Append", e, m)
	if !slices.Equal(room, make([]byte, 100)) {
		t.Error("what was handed in has changed")
	}
}

func TestWhatIsHandedInStays(t *testing.T) {
	d := New(1, 50, 64, 500)
	room := []byte(text(0, 100))
	for range 3 {
		d.Put(0, room[10:20])
		d.Append(room[20:60])
		d.Crash(1, 10)
		d.Put(0, room[:50])
		d.Append(room[:70:80])
		d.Cut(50)
		d.Append([]byte("xyz"))
		d.Sync()
	}
	if string(room) != text(0, 100) {
		t.Error("what was handed in has changed")
	}
}

func TestWhatIsToldIsNewEachTime(t *testing.T) {
	for _, sure := range []bool{true, false} {
		d, m := New(1, 4, 64, 200), blank(1, 4, 64, 200)
		does(t, d, m, puts(0, "abcd"))
		does(t, d, m, appends(text(0, 100)))
		if sure {
			d.Sync()
			m.sync()
		}
		for _, b := range [][]byte{d.Block(0), d.Bytes(0), d.Bytes(70)} {
			clear(b)
			_ = append(b[:1], "!!!!"...)
			_ = append(b, "!!!!"...)
		}
		has(t, "behind a change of what was told", d, m)
		block, bytes := d.Block(0), d.Bytes(3)
		d.Put(0, []byte("xy"))
		d.Cut(10)
		d.Append(make([]byte, 80))
		d.Crash(1, 0)
		if string(block) != "abcd" || string(bytes) != text(3, 97) {
			t.Errorf("what was told has changed with the disk: %q, %q", block, bytes)
		}
	}
}

// P9.2, P9.3: Sync, Crash

func TestSync(t *testing.T) {
	d, m := New(2, 4, 64, 200), blank(2, 4, 64, 200)
	for _, calls := range [][]call{
		{puts(0, "abcd")}, {appends(text(0, 70))}, {}, {drops(64), appends("xyz")}, {cuts(70)},
		{puts(0, "x"), puts(1, "yz"), appends("ab"), cuts(71), appends("cd"), puts(1, "!"), drops(1000)},
	} {
		for _, c := range calls {
			does(t, d, m, c)
		}
		was := m.seen()
		d.Sync()
		m.sync()
		has(t, "behind a Sync", d, m)
		surely(t, "behind a Sync", d, m)
		tells(t, "behind a Sync", d, m, was)
		if d.Pending() != 0 {
			t.Errorf("%d are pending behind a Sync", d.Pending())
		}
		d.Sync()
		has(t, "behind one more Sync", d, m)
	}
}

// script has all kinds of calls, each of which has something to do with those ahead of it.
func script() []call {
	return []call{
		puts(1, "abcd"), appends("0123456789"), puts(1, "xy"), appends(text(10, 60)), puts(0, ""), cuts(66), appends("ABCDE"), drops(64),
		puts(1, "efgh"), appends(""), appends(text(71, 70)), cuts(65), appends("?"), drops(1000), puts(0, "ij"),
	}
}

func TestCrashKeepsABeginning(t *testing.T) {
	for _, before := range []int{0, 5, 100} {
		d, m := New(2, 4, 64, 300), blank(2, 4, 64, 300)
		does(t, d, m, puts(1, "~~~~"))
		does(t, d, m, appends(text(0, before)))
		d.Sync()
		m.sync()
		for _, c := range script() {
			does(t, d, m, c)
		}
		keeps := slices.Concat(below(), far(), []int{15, 16, 256, 257})
		for keep := range 15 {
			keeps = append(keeps, keep)
		}
		tears := slices.Concat(odd(), []int{0, 1, 2, 3, 4, 5, 6, 9, 10, 11, 59, 60, 61, 256, 257})
		for _, keep := range keeps {
			for _, tear := range tears {
				c, cm := d.Copy(), m.copy()
				c.Crash(keep, tear)
				cm.crash(keep, tear)
				has(t, "behind a crash", c, cm)
				surely(t, "behind a crash", c, cm)
				c.Crash(0, 0)
				has(t, "behind one more crash", c, cm)
				c.Sync()
				has(t, "behind a crash and a Sync", c, cm)
				does(t, c, cm, appends("more"))
				does(t, c, cm, puts(0, "more"))
				has(t, "going on behind a crash", c, cm)
				c.Crash(1, 3)
				cm.crash(1, 3)
				has(t, "crashed anew", c, cm)
			}
		}
	}
}

func TestCrashTearsAPut(t *testing.T) {
	cases := []struct {
		b    string
		tear int
		want string
	}{
		{"xy", 0, "abcd"}, {"xy", -1, "abcd"}, {"xy", math.MinInt, "abcd"}, {"xy", 1, "xbcd"}, {"xy", 2, "xycd"}, {"xy", 3, "xy\x00d"},
		{"xy", 4, "xy\x00\x00"}, {"xy", 5, "xy\x00\x00"}, {"xy", math.MaxInt, "xy\x00\x00"}, {"", 1, "\x00bcd"}, {"wxyz", 3, "wxyd"}, {"wxyz", 4, "wxyz"},
	}
	for _, c := range cases {
		d := New(2, 4, 64, 9)
		d.Put(1, []byte("abcd"))
		d.Sync()
		d.Put(1, []byte(c.b))
		d.Append([]byte("0"))
		d.Crash(0, c.tear)
		if string(d.Block(1)) != c.want || d.End() != 0 || d.Pending() != 0 {
			t.Errorf("%q, torn behind %d: %q, and %d bytes on the tape; want %q", c.b, c.tear, d.Block(1), d.End(), c.want)
		}
	}
}

func TestCrashTearsAnAppend(t *testing.T) {
	for tear, want := range map[int]string{math.MinInt: "ab", -1: "ab", 0: "ab", 1: "abc", 2: "abcd", 3: "abcde", 4: "abcde", math.MaxInt: "abcde"} {
		d := New(1, 1, 64, 9)
		d.Append([]byte("ab"))
		d.Sync()
		d.Append([]byte("cde"))
		d.Append([]byte("fgh"))
		d.Put(0, []byte("x"))
		d.Crash(-5, tear)
		if string(d.Bytes(0)) != want || d.Block(0)[0] != 0 {
			t.Errorf("torn behind %d: %q; want %q", tear, d.Bytes(0), want)
		}
	}
}

func TestCrashTearsNoDropAndNoCut(t *testing.T) {
	for _, tear := range append(odd(), 0, 1, 64, 128, 200) {
		for _, c := range []call{drops(64), drops(1000), cuts(100), cuts(0)} {
			d, m := New(1, 1, 64, 300), blank(1, 1, 64, 300)
			does(t, d, m, appends(text(0, 200)))
			d.Sync()
			m.sync()
			does(t, d, m, c)
			does(t, d, m, appends("xyz"))
			d.Crash(0, tear)
			m.crash(0, tear)
			has(t, "behind a crash", d, m)
			if d.First() != 0 || d.End() != 200 {
				t.Errorf("%s, torn behind %d: from %d to %d", c.what, tear, d.First(), d.End())
			}
		}
	}
}

func TestACrashThatKeepsAllIsASync(t *testing.T) {
	for n := range len(script()) + 1 {
		for _, more := range []int{0, 1, 2, 1000, math.MaxInt - n} {
			d, m := New(2, 4, 64, 300), blank(2, 4, 64, 300)
			for _, c := range script()[:n] {
				does(t, d, m, c)
			}
			s := d.Copy()
			s.Sync()
			d.Crash(n+more, 1)
			m.sync()
			has(t, "synced", s, m)
			has(t, "crashed", d, m)
			surely(t, "synced", s, m)
			surely(t, "crashed", d, m)
		}
	}
}

func TestWhatIsSureStays(t *testing.T) {
	d, m := New(2, 4, 64, 300), blank(2, 4, 64, 300)
	for _, c := range []call{puts(0, "abcd"), puts(1, "efgh"), appends(text(0, 100))} {
		does(t, d, m, c)
	}
	d.Sync()
	for _, keep := range []int{-1, 0, 1, 2, 3, 4, math.MaxInt} {
		for tear := range 5 {
			d.Put(1, []byte("x"))
			d.Append([]byte("yz"))
			d.Append([]byte("uvw"))
			d.Crash(keep, tear)
			// Block 1 alone had something pending that takes its place.
			if string(d.Block(0)) != "abcd" || string(d.Bytes(0)[:100]) != text(0, 100) || d.First() != 0 {
				t.Fatalf("Crash(%d, %d): %q, %q", keep, tear, d.Block(0), d.Bytes(0))
			}
		}
	}
}

func TestWhatIsSeenBehindACrashIsSure(t *testing.T) {
	d, m := New(1, 4, 64, 300), blank(1, 4, 64, 300)
	for _, c := range []call{puts(0, "abcd"), appends("abcd"), puts(0, "efgh")} {
		does(t, d, m, c)
	}
	d.Crash(1, 2)
	m.crash(1, 2)
	for range 3 {
		d.Crash(0, 0)
		has(t, "behind one more crash", d, m)
	}
	if string(d.Block(0)) != "abcd" || string(d.Bytes(0)) != "ab" {
		t.Errorf("%q, %q", d.Block(0), d.Bytes(0))
	}
}

func TestACrashOfNothingPending(t *testing.T) {
	for _, keep := range append(odd(), 0, 1) {
		d := New(2, 4, 64, 9)
		d.Crash(keep, 1)
		has(t, "a new one, crashed", d, blank(2, 4, 64, 9))
	}
}

// P9.2: Copy

func TestCopyHasTheSame(t *testing.T) {
	for n := range len(script()) + 1 {
		d, m := New(2, 4, 64, 300), blank(2, 4, 64, 300)
		for i, c := range script() {
			if i == n {
				d.Sync()
				m.sync()
			}
			does(t, d, m, c)
		}
		c := d.Copy()
		if c == d {
			t.Fatal("a copy is the disk itself")
		}
		has(t, "a copy", c, m)
		surely(t, "a copy", c, m)
		has(t, "a copy of a copy", c.Copy(), m)
		surely(t, "a copy of a copy", c.Copy(), m)
		has(t, "what was copied", d, m)
		surely(t, "what was copied", d, m)
		// It has as much room, too.
		does(t, c, m, appends(text(0, 301)))
		does(t, c, m, appends(text(0, int(300-c.End()+c.First()))))
		does(t, c, m, appends("x"))
		has(t, "a copy, full", c, m)
	}
}

func TestCopyGoesItsOwnWay(t *testing.T) {
	ways := []func(d *Disk, m *model){
		func(d *Disk, m *model) { does(t, d, m, puts(0, "!!!!")) },
		func(d *Disk, m *model) { does(t, d, m, appends("!!!!")) },
		func(d *Disk, m *model) { does(t, d, m, appends(text(50, 100))) },
		func(d *Disk, m *model) { does(t, d, m, drops(64)) },
		func(d *Disk, m *model) { does(t, d, m, cuts(3)); does(t, d, m, appends("++")) },
		func(d *Disk, m *model) { d.Sync(); m.sync() },
		func(d *Disk, m *model) { d.Crash(0, 1); m.crash(0, 1) },
		func(d *Disk, m *model) { d.Crash(2, 1); m.crash(2, 1) },
		func(d *Disk, m *model) { d.Crash(1, 0); m.crash(1, 0); does(t, d, m, puts(1, "????")) },
	}
	for n := range 6 {
		for _, first := range ways {
			for _, then := range ways {
				d, m := New(2, 4, 64, 400), blank(2, 4, 64, 400)
				for i, c := range script()[:6] {
					if i == n {
						d.Sync()
						m.sync()
					}
					does(t, d, m, c)
				}
				c, cm := d.Copy(), m.copy()
				e, em := c.Copy(), m.copy()
				first(d, m)
				has(t, "the copy, behind a change of the disk", c, cm)
				surely(t, "the copy, behind a change of the disk", c, cm)
				then(c, cm)
				has(t, "the disk, behind a change of the copy", d, m)
				surely(t, "the disk, behind a change of the copy", d, m)
				has(t, "the copy", c, cm)
				surely(t, "the copy", c, cm)
				has(t, "the copy's copy", e, em)
				surely(t, "the copy's copy", e, em)
			}
		}
	}
}

// What is pending of a disk and of its copy grows behind the same beginning.
func TestPendingOfACopyIsItsOwn(t *testing.T) {
	d, m := New(1, 1, 64, 300), blank(1, 1, 64, 300)
	for i := range 20 {
		c, cm := d.Copy(), m.copy()
		does(t, d, m, appends(text(i, 1)))
		does(t, c, cm, appends("."))
		does(t, c, cm, appends("."))
		has(t, "the disk", d, m)
		has(t, "the copy", c, cm)
		for _, x := range []struct {
			d *Disk
			m *model
		}{{d.Copy(), m.copy()}, {c, cm}} {
			x.d.Crash(i+1, 0)
			x.m.crash(i+1, 0)
			has(t, "crashed", x.d, x.m)
		}
	}
}

// nil, and disks that no call made

func TestNil(t *testing.T) {
	var d *Disk
	none := blank(0, 0, 64, 0)
	for _, i := range append(odd(), 0, 1) {
		told(t, "Put of nil", d.Put(i, nil), api.ErrArg)
		told(t, "Put of nil", d.Put(i, make([]byte, 5000)), api.ErrArg)
		told(t, "Append to nil", d.Append(nil), api.ErrArg)
		told(t, "Append to nil", d.Append([]byte("x")), api.ErrArg)
		told(t, "Append of too much to nil", d.Append(make([]byte, 65537)), api.ErrArg)
		d.Drop(int64(i))
		d.Cut(int64(i))
		d.Sync()
		d.Crash(i, i)
		if d.Pending() != 0 || d.Blocks() != 0 || d.Size() != 0 || d.Block(i) != nil || d.First() != 0 || d.End() != 0 || d.Segs() != 0 || d.Bytes(int64(i)) != nil {
			t.Fatal("nil tells something")
		}
	}
	c := d.Copy()
	if c == nil {
		t.Fatal("Copy of nil is nil")
	}
	has(t, "a copy of nil", c, none)
	told(t, "Put of a copy of nil", c.Put(0, nil), api.ErrArg)
	does(t, c, none, appends("x"))
	does(t, c, none, appends(""))
	does(t, c, none, drops(1))
	has(t, "a copy of nil, written", c, none)
}

func TestADiskThatNoCallMade(t *testing.T) {
	for _, i := range append(odd(), 0, 1, 2, 3, 4) {
		var d Disk
		m := blank(0, 0, 64, 0)
		has(t, "no call's disk", &d, m)
		surely(t, "no call's disk", &d, m)
		does(t, &d, m, puts(i, ""))
		does(t, &d, m, appends("x"))
		does(t, &d, m, appends(text(0, 65537)))
		does(t, &d, m, appends(""))
		does(t, &d, m, drops(int64(i)))
		does(t, &d, m, cuts(int64(i)))
		has(t, "no call's disk, written", &d, m)
		c, cm := d.Copy(), m.copy()
		has(t, "a copy of no call's disk", c, cm)
		d.Crash(i, i)
		m.crash(i, i)
		has(t, "no call's disk, crashed", &d, m)
		c.Sync()
		cm.sync()
		has(t, "a copy of no call's disk, sure", c, cm)
		var e Disk
		e.Sync()
		e.Crash(i, i)
		has(t, "no call's disk, synced and crashed", &e, m)
	}
}

// P9.1 to P9.3 as a whole

func TestManyCalls(t *testing.T) {
	// The numbers hang on seed alone.
	for seed := range uint32(30) {
		r := seed*2654435761 + 1
		next := func(n int) int {
			r = r*1664525 + 1013904223
			return int(r>>16) % n
		}
		seg := 64 + int(seed)%5*7
		d, m := New(3, 5, seg, 400), blank(3, 5, seg, 400)
		crashes := 0
		for i := range 400 {
			f := m.seen()
			at := int64(f.first + next(len(f.all)-f.first+2*seg) - seg)
			switch next(12) {
			case 0, 1:
				does(t, d, m, drops(at))
			case 2:
				does(t, d, m, cuts(max(at, int64(len(f.all)-next(seg)))))
			case 3, 4, 5:
				does(t, d, m, puts(next(4), text(i, next(7))))
			case 6, 7, 8:
				does(t, d, m, appends(text(i, next(seg))))
			case 9:
				old, was := d, m.copy()
				d = d.Copy()
				does(t, d, m, puts(0, "copy"))
				has(t, "what was copied", old, was)
			case 10:
				d.Sync()
				m.sync()
			default:
				keep, tear := next(len(m.pending)+3)-1, next(seg)-1
				d.Crash(keep, tear)
				m.crash(keep, tear)
				crashes++
			}
			has(t, "in between", d, m)
			surely(t, "in between", d, m)
		}
		if m.sure.first == 0 || crashes < 10 {
			t.Errorf("seed %d: %d crashes, from %d on, which is too little to tell anything", seed, crashes, m.sure.first)
		}
	}
}

func TestExample(t *testing.T) {
	d := New(1, 1, 64, 64)
	d.Append([]byte("ab"))
	d.Sync()
	d.Append([]byte("cd"))
	d.Append([]byte("ef"))
	d.Crash(1, 1)
	if string(d.Bytes(0)) != "abcde" {
		t.Errorf("%q", d.Bytes(0))
	}
}
