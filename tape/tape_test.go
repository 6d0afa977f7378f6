package tape

import (
	"math"
	"slices"
	"testing"
)

// below are numbers below 0, among them some that would be right ones in fewer bits.
func below() []int64 {
	return []int64{math.MinInt64, math.MinInt64 + 1, math.MinInt64 + 64, -1 << 32, -1<<32 + 64, -1<<32 + 70, -65536, -256, -65, -64, -63, -2, -1}
}

// far are numbers beyond all that is there, among them some that would be right ones in fewer bits.
func far() []int64 {
	return []int64{1 << 32, 1<<32 + 1, 1<<32 + 64, 1<<32 + 100, 1 << 40, math.MaxInt64 - 64, math.MaxInt64 - 1, math.MaxInt64}
}

// text is n bytes that go on from those that text has told for from; 251 is none of a segment's parts, so that no two segments are alike.
func text(from, n int) []byte {
	var b []byte
	for i := range n {
		b = append(b, byte((from+i)%251))
	}
	return b
}

// model is what a tape must have, told byte by byte: all that came, of which those ahead of first went.
type model struct {
	seg, first int
	all        []byte
}

// append puts b behind all.
func (m *model) append(b []byte) {
	m.all = slices.Concat(m.all, b)
}

// drop lets a segment go after the other, while each of its numbers is below keep and it has all its bytes.
func (m *model) drop(keep int64) {
	for m.first+m.seg <= len(m.all) && int64(m.first+m.seg) <= keep {
		m.first += m.seg
	}
}

// cut lets a byte go after the other from behind.
func (m *model) cut(end int64) {
	for len(m.all) > m.first && int64(len(m.all)) > end {
		m.all = m.all[:len(m.all)-1]
	}
}

// segs counts the segments of which a number is there.
func (m *model) segs() int {
	named := map[int]int{}
	for i := m.first; i < len(m.all); i++ {
		named[i/m.seg]++
	}
	return len(named)
}

// bytes is what is there from a number on.
func (m *model) bytes(from int64) []byte {
	var b []byte
	for i := m.first; i < len(m.all); i++ {
		if int64(i) >= from {
			b = append(b, m.all[i])
		}
	}
	return b
}

// of is a tape of n bytes of text, and what it must have.
func of(seg, n int) (*Tape, *model) {
	x, m := New(seg), &model{seg: seg}
	x.Append(text(0, n))
	m.append(text(0, n))
	return x, m
}

// has asks that a tape has just what a model says.
func has(t *testing.T, what string, x *Tape, m *model) {
	t.Helper()
	end := len(m.all)
	if x.First() != int64(m.first) || x.End() != int64(end) || x.Segs() != m.segs() {
		t.Fatalf("%s: from %d to %d, %d segments; want from %d to %d, %d segments", what, x.First(), x.End(), x.Segs(), m.first, end, m.segs())
	}
	froms := slices.Concat(below(), far())
	for _, i := range []int{0, m.first, m.first + m.seg, m.first + 2*m.seg, end / m.seg * m.seg, end} {
		froms = append(froms, int64(i-1), int64(i), int64(i+1))
	}
	for _, from := range froms {
		is, want := x.Bytes(from), m.bytes(from)
		if !slices.Equal(is, want) || (want == nil && is != nil) {
			t.Fatalf("%s: from %d on %d bytes: %v; want %d: %v", what, from, len(is), is, len(want), want)
		}
	}
}

// around are numbers at and beside the edges of the first four segments, and beyond all.
func around(seg int) []int64 {
	l := slices.Concat(below(), far())
	for n := range 5 {
		for d := -2; d <= 2; d++ {
			l = append(l, int64(n*seg+d))
		}
		l = append(l, int64(n*seg+seg/2))
	}
	return l
}

// P8.1: New

func TestNewHasNone(t *testing.T) {
	for _, seg := range []int{math.MinInt, -1, 0, 1, 64, 100, 4096, 4097, math.MaxInt} {
		x := New(seg)
		if x == nil {
			t.Fatalf("New(%d) is nil", seg)
		}
		has(t, "a new tape", x, &model{seg: 64})
	}
}

func TestSizesOfSegments(t *testing.T) {
	sizes := map[int]int{
		64: 64, 65: 65, 66: 66, 100: 100, 127: 127, 128: 128, 255: 255, 256: 256, 1000: 1000, 4095: 4095, 4096: 4096,
		63: 64, 62: 64, 10: 64, 1: 64, 0: 64, -1: 64, -64: 64, -100: 64, math.MinInt: 64, math.MinInt + 100: 64, -1 << 32: 64, -1<<32 + 100: 64,
		4097: 4096, 4098: 4096, 8192: 4096, 65536: 4096, 65536 + 100: 4096, 1 << 20: 4096, 1 << 32: 4096, 1<<32 + 100: 4096, math.MaxInt: 4096, math.MaxInt - 1: 4096,
	}
	for asked, seg := range sizes {
		x, m := New(asked), &model{seg: seg}
		for i, n := range []int{1, seg - 2, 1, 1, seg - 1, seg, 2} {
			b := text(len(m.all), n)
			x.Append(b)
			m.append(b)
			has(t, "grown", x, m)
			if i == 2 && x.Segs() != 1 || i == 3 && x.Segs() != 2 {
				t.Errorf("New(%d): %d segments of %d bytes", asked, x.Segs(), x.End())
			}
		}
		x.Drop(int64(seg - 1))
		has(t, "behind a Drop that is too short", x, m)
		x.Drop(int64(seg))
		m.drop(int64(seg))
		has(t, "behind a Drop of one segment", x, m)
		if x.First() != int64(seg) {
			t.Errorf("New(%d): First is %d; want %d", asked, x.First(), seg)
		}
	}
}

// P8.1: Append, First, End, Segs

func TestAppend(t *testing.T) {
	for _, seg := range []int{64, 70} {
		for _, n := range []int{0, 1, 2, 63, 64, 65, 69, 70, 71, 127, 128, 129, 139, 140, 141, 300} {
			for _, more := range []int{0, 1, 2, 62, 63, 64, 65, 69, 70, 71, 128, 140, 300} {
				x, m := of(seg, n)
				has(t, "behind one Append", x, m)
				b := text(n, more)
				x.Append(b)
				m.append(b)
				has(t, "behind two Appends", x, m)
			}
		}
	}
}

func TestAppendByteByByte(t *testing.T) {
	x, m := of(64, 0)
	for i := range 300 {
		x.Append(text(i, 1))
		m.append(text(i, 1))
		has(t, "byte by byte", x, m)
	}
	if x.End() != 300 || x.Segs() != 5 {
		t.Errorf("%d bytes in %d segments", x.End(), x.Segs())
	}
}

func TestAppendOfNone(t *testing.T) {
	for _, n := range []int{0, 1, 63, 64, 65, 128} {
		x, m := of(64, n)
		x.Append(nil)
		x.Append([]byte{})
		has(t, "behind Appends of none", x, m)
	}
}

func TestAppendOfEachByte(t *testing.T) {
	var b []byte
	for i := range 256 {
		b = append(b, byte(255-i))
	}
	x, m := of(64, 10)
	x.Append(b)
	m.append(b)
	has(t, "each byte", x, m)
}

func TestAppendOfMany(t *testing.T) {
	x, m := of(4096, 0)
	for range 3 {
		b := text(len(m.all), 1<<20/3)
		x.Append(b)
		m.append(b)
	}
	x.Append([]byte("!"))
	m.append([]byte("!"))
	has(t, "a great tape", x, m)
	if x.Segs() != 256 {
		t.Errorf("%d segments", x.Segs())
	}
	x.Drop(1 << 19)
	m.drop(1 << 19)
	has(t, "a great tape, the half of it dropped", x, m)
}

func TestAppendKeepsNothingOfWhatIsHandedIn(t *testing.T) {
	room := text(0, 200)
	x, m := New(64), &model{seg: 64}
	for _, b := range [][]byte{room[10:20], room[20:150], room[150:151], room[5:7:7]} {
		x.Append(b)
		m.append(b)
		if !slices.Equal(room, text(0, 200)) {
			t.Fatal("what was handed in has changed")
		}
	}
	clear(room)
	has(t, "behind a change of what was handed in", x, m)
	x.Append([]byte("xyz"))
	x.Cut(3)
	x.Append([]byte("uvw"))
	if !slices.Equal(room, make([]byte, 200)) {
		t.Error("what was handed in has changed with the tape")
	}
}

func TestTapesAreApart(t *testing.T) {
	a, am := of(64, 100)
	b, bm := of(64, 70)
	a.Append([]byte("abc"))
	am.append([]byte("abc"))
	a.Drop(64)
	am.drop(64)
	has(t, "the first one", a, am)
	has(t, "the other one", b, bm)
	has(t, "a third one", New(64), &model{seg: 64})
}

// P8.1, P8.3: numbers

func TestNumbersStay(t *testing.T) {
	x, _ := of(64, 200)
	for _, do := range []func(){
		func() { x.Append(text(200, 100)) },
		func() { x.Drop(70) },
		func() { x.Cut(250) },
		func() { x.Append(text(250, 500)) },
		func() { x.Drop(130) },
		func() { x.Drop(0) },
		func() { x.Cut(1000) },
		func() { x.Cut(193) },
	} {
		do()
		for i := x.First(); i < x.End(); i++ {
			if b := x.Bytes(i); b[0] != text(int(i), 1)[0] {
				t.Fatalf("the number %d is that of %d", i, b[0])
			}
		}
	}
	if x.First() != 128 || x.End() != 193 || x.Segs() != 2 {
		t.Errorf("from %d to %d, %d segments", x.First(), x.End(), x.Segs())
	}
}

func TestNumbersGoOnWhereAllWasDropped(t *testing.T) {
	x, m := of(64, 128)
	x.Drop(128)
	m.drop(128)
	has(t, "all dropped", x, m)
	if x.First() != 128 || x.End() != 128 || x.Segs() != 0 {
		t.Errorf("from %d to %d, %d segments", x.First(), x.End(), x.Segs())
	}
	for _, n := range []int{1, 62, 1, 1, 100} {
		b := text(len(m.all), n)
		x.Append(b)
		m.append(b)
		has(t, "grown behind all that was dropped", x, m)
	}
	if x.First() != 128 || x.End() != 128+165 || x.Segs() != 3 {
		t.Errorf("from %d to %d, %d segments", x.First(), x.End(), x.Segs())
	}
}

func TestWhatWasDroppedStaysAway(t *testing.T) {
	x, m := of(64, 300)
	x.Drop(192)
	m.drop(192)
	for _, n := range around(64) {
		x.Drop(min(n, 192))
		x.Cut(max(n, 300))
		has(t, "behind Drops and Cuts that do nothing", x, m)
	}
	x.Cut(0)
	m.cut(0)
	has(t, "all that was left is cut", x, m)
	x.Append(text(0, 1000))
	m.append(text(0, 1000))
	has(t, "grown anew", x, m)
	if x.First() != 192 || x.End() != 1192 {
		t.Errorf("from %d to %d", x.First(), x.End())
	}
	if b := x.Bytes(0); b[0] != 0 || len(b) != 1000 {
		t.Errorf("%d bytes, the first one %d", len(b), b[0])
	}
}

// P8.2: Drop

func TestDrop(t *testing.T) {
	for _, seg := range []int{64, 70} {
		for _, n := range []int{0, 1, seg - 1, seg, seg + 1, 2*seg - 1, 2 * seg, 2*seg + 1, 3 * seg} {
			for _, keep := range around(seg) {
				x, m := of(seg, n)
				x.Drop(keep)
				m.drop(keep)
				has(t, "behind a Drop", x, m)
				x.Drop(keep)
				has(t, "behind the same Drop once more", x, m)
				for _, again := range around(seg) {
					y, ym := x.Copy(), &model{seg, m.first, m.all}
					y.Drop(again)
					ym.drop(again)
					has(t, "behind two Drops", y, ym)
				}
			}
		}
	}
}

func TestDropOfEdges(t *testing.T) {
	cases := []struct {
		n           int
		keep, first int64
		segs        int
	}{
		{130, 0, 0, 3}, {130, 1, 0, 3}, {130, 63, 0, 3}, {130, 64, 64, 2}, {130, 65, 64, 2}, {130, 127, 64, 2}, {130, 128, 128, 1}, {130, 129, 128, 1},
		{130, 130, 128, 1}, {130, 131, 128, 1}, {130, 191, 128, 1}, {130, 192, 128, 1}, {130, 193, 128, 1}, {130, math.MaxInt64, 128, 1},
		{128, 127, 64, 1}, {128, 128, 128, 0}, {128, 129, 128, 0}, {128, 500, 128, 0},
		{63, 63, 0, 1}, {63, 64, 0, 1}, {63, 1000, 0, 1}, {0, 64, 0, 0}, {0, 1000, 0, 0},
		{130, -1, 0, 3}, {130, -64, 0, 3}, {130, -65, 0, 3}, {130, math.MinInt64, 0, 3},
	}
	for _, c := range cases {
		x, _ := of(64, c.n)
		x.Drop(c.keep)
		if x.First() != c.first || x.End() != int64(c.n) || x.Segs() != c.segs {
			t.Errorf("Drop(%d) of %d: First %d, End %d, Segs %d; want %d, %d, %d", c.keep, c.n, x.First(), x.End(), x.Segs(), c.first, c.n, c.segs)
		}
		if b := x.Bytes(0); len(b) != c.n-int(c.first) || len(b) > 0 && b[0] != byte(c.first) {
			t.Errorf("Drop(%d) of %d: %v", c.keep, c.n, b)
		}
	}
}

// P8.2: Cut

func TestCut(t *testing.T) {
	for _, seg := range []int{64, 70} {
		for _, n := range []int{0, 1, seg - 1, seg, seg + 1, 2 * seg, 2*seg + 1, 3*seg - 1, 3 * seg} {
			for _, keep := range []int{0, seg, 2 * seg} {
				for _, end := range around(seg) {
					x, m := of(seg, n)
					x.Drop(int64(keep))
					m.drop(int64(keep))
					x.Cut(end)
					m.cut(end)
					has(t, "behind a Cut", x, m)
					x.Cut(end)
					has(t, "behind the same Cut once more", x, m)
					for _, more := range []int{1, seg - 1, seg, seg + 1} {
						y, ym := x.Copy(), &model{seg, m.first, m.all}
						b := text(7, more)
						y.Append(b)
						ym.append(b)
						has(t, "grown behind a Cut", y, ym)
						y.Drop(int64(2 * seg))
						ym.drop(int64(2 * seg))
						has(t, "grown and dropped behind a Cut", y, ym)
					}
				}
			}
		}
	}
}

func TestCutOfEdges(t *testing.T) {
	cases := []struct {
		keep, cut, end int64
		segs           int
	}{
		{0, 130, 130, 3}, {0, 131, 130, 3}, {0, math.MaxInt64, 130, 3}, {0, 129, 129, 3}, {0, 128, 128, 2}, {0, 127, 127, 2}, {0, 65, 65, 2}, {0, 64, 64, 1},
		{0, 63, 63, 1}, {0, 1, 1, 1}, {0, 0, 0, 0}, {0, -1, 0, 0}, {0, math.MinInt64, 0, 0},
		{64, 65, 65, 1}, {64, 64, 64, 0}, {64, 63, 64, 0}, {64, 0, 64, 0}, {64, -1, 64, 0}, {64, math.MinInt64, 64, 0},
		{128, 129, 129, 1}, {128, 128, 128, 0}, {128, 100, 128, 0},
	}
	for _, c := range cases {
		x, _ := of(64, 130)
		x.Drop(c.keep)
		x.Cut(c.cut)
		if x.First() != c.keep || x.End() != c.end || x.Segs() != c.segs {
			t.Errorf("Cut(%d) from %d on: First %d, End %d, Segs %d; want %d, %d, %d", c.cut, c.keep, x.First(), x.End(), x.Segs(), c.keep, c.end, c.segs)
		}
		if b := x.Bytes(0); len(b) != int(c.end-c.keep) {
			t.Errorf("Cut(%d) from %d on: %d bytes", c.cut, c.keep, len(b))
		}
	}
}

func TestWhatWasCutStaysAway(t *testing.T) {
	x, m := of(64, 200)
	x.Cut(70)
	m.cut(70)
	x.Cut(200)
	has(t, "a Cut behind the end", x, m)
	x.Append([]byte("ab"))
	m.append([]byte("ab"))
	has(t, "grown behind the Cut", x, m)
	if b := x.Bytes(69); string(b) != "Eab" {
		t.Errorf("%q", b)
	}
}

// P8.2: Bytes

func TestBytesFromEachNumber(t *testing.T) {
	for _, n := range []int{0, 1, 64, 65, 130, 200} {
		for _, keep := range []int64{0, 64, 128} {
			x, m := of(64, n)
			x.Drop(keep)
			m.drop(keep)
			for from := int64(-70); from < 300; from++ {
				is, want := x.Bytes(from), m.bytes(from)
				if !slices.Equal(is, want) || (want == nil && is != nil) {
					t.Fatalf("%d bytes from %d on: %v; want %v", n, from, is, want)
				}
			}
		}
	}
}

func TestBytesIsNewEachTime(t *testing.T) {
	x, m := of(64, 150)
	for _, from := range []int64{-1, 0, 3, 63, 64, 70, 130, 149} {
		b, again := x.Bytes(from), x.Bytes(from)
		want := slices.Clone(b)
		clear(b)
		_ = append(b[:1], "!!!!!!"...)
		_ = append(b, "!!!!!!"...)
		if !slices.Equal(again, want) {
			t.Errorf("the other answer has changed: %v", again)
		}
	}
	has(t, "behind a change of answers", x, m)
	was := [][]byte{x.Bytes(0), x.Bytes(70), x.Bytes(149)}
	x.Cut(3)
	x.Append(text(100, 400))
	x.Drop(500)
	for i, from := range []int{0, 70, 149} {
		if !slices.Equal(was[i], text(from, 150-from)) {
			t.Errorf("an answer has changed with the tape: %v", was[i])
		}
	}
}

func TestBytesPutBehindThemselves(t *testing.T) {
	x, m := of(64, 100)
	x.Append(x.Bytes(10))
	m.append(m.bytes(10))
	has(t, "its own bytes put behind", x, m)
}

// P8.2: Copy

func TestCopyHasTheSame(t *testing.T) {
	for _, seg := range []int{64, 70, 4096} {
		for _, n := range []int{0, 1, 63, 64, 65, 140, 4096, 5000} {
			for _, keep := range []int64{0, 70, 140, 5000} {
				x, m := of(seg, n)
				x.Drop(keep)
				m.drop(keep)
				c := x.Copy()
				if c == x {
					t.Fatal("a copy is the tape itself")
				}
				has(t, "a copy", c, m)
				has(t, "a copy of a copy", c.Copy(), m)
				has(t, "what was copied", x, m)
				// Its segments are as great, too.
				b := text(n, 2*seg+1)
				c.Append(b)
				m.append(b)
				has(t, "a copy, grown", c, m)
			}
		}
	}
	for _, asked := range []int{math.MinInt, 0, 63, 100, 4097} {
		seg := min(max(asked, 64), 4096)
		c, m := New(asked).Copy(), &model{seg: seg}
		c.Append(text(0, 3*seg-1))
		m.append(text(0, 3*seg-1))
		has(t, "a copy of a new one, grown", c, m)
	}
}

func TestCopyGoesItsOwnWay(t *testing.T) {
	do := []func(x *Tape, m *model){
		func(x *Tape, m *model) { x.Append([]byte("abc")); m.append([]byte("abc")) },
		func(x *Tape, m *model) { x.Append(text(50, 200)); m.append(text(50, 200)) },
		func(x *Tape, m *model) { x.Drop(64); m.drop(64) },
		func(x *Tape, m *model) { x.Drop(1000); m.drop(1000) },
		func(x *Tape, m *model) { x.Cut(129); m.cut(129) },
		func(x *Tape, m *model) { x.Cut(0); m.cut(0) },
		func(x *Tape, m *model) {
			x.Cut(70)
			m.cut(70)
			x.Append([]byte("++++"))
			m.append([]byte("++++"))
		},
	}
	for _, n := range []int{0, 1, 64, 130, 150} {
		for _, first := range do {
			for _, then := range do {
				// Grown byte by byte, so that there is room behind what a segment has.
				x, m := of(64, 0)
				for i := range n {
					x.Append(text(i, 1))
					m.append(text(i, 1))
				}
				c, cm := x.Copy(), &model{64, 0, m.all}
				d, dm := c.Copy(), &model{64, 0, m.all}
				first(x, m)
				has(t, "the copy, behind a change of the tape", c, cm)
				then(c, cm)
				has(t, "the tape, behind a change of the copy", x, m)
				has(t, "the copy", c, cm)
				has(t, "the copy's copy", d, dm)
			}
		}
	}
}

// nil, and tapes that no call made

func TestNil(t *testing.T) {
	var x *Tape
	for _, n := range around(64) {
		x.Append([]byte("abc"))
		x.Append(nil)
		x.Drop(n)
		x.Cut(n)
		has(t, "nil", x, &model{seg: 64})
	}
	c, m := x.Copy(), &model{seg: 64}
	if c == nil {
		t.Fatal("Copy of nil is nil")
	}
	has(t, "a copy of nil", c, m)
	c.Append(text(0, 1))
	m.append(text(0, 1))
	has(t, "a copy of nil, grown", c, m)
	has(t, "nil, behind a change of the copy", x, &model{seg: 64})
}

func TestATapeThatNoCallMade(t *testing.T) {
	for _, n := range around(64) {
		var x Tape
		m := &model{seg: 64}
		x.Drop(n)
		x.Cut(n)
		has(t, "no call's tape", &x, m)
		has(t, "a copy of no call's tape", x.Copy(), m)
		x.Append(nil)
		x.Append(text(0, 200))
		m.append(text(0, 200))
		has(t, "no call's tape, grown", &x, m)
		x.Drop(n)
		m.drop(n)
		x.Cut(max(n, 150))
		m.cut(max(n, 150))
		has(t, "no call's tape, dropped and cut", &x, m)
	}
	var x Tape
	c, m := x.Copy(), &model{seg: 64}
	c.Append(text(0, 70))
	m.append(text(0, 70))
	has(t, "a copy of no call's tape, grown", c, m)
	has(t, "no call's tape, behind a change of the copy", &x, &model{seg: 64})
}

// P8.1 to P8.3 as a whole

func TestManyCalls(t *testing.T) {
	// The numbers hang on seed alone.
	for seed := range uint32(20) {
		r := seed*2654435761 + 1
		next := func(n int) int {
			r = r*1664525 + 1013904223
			return int(r>>16) % n
		}
		seg := 64 + int(seed)%7*5
		x, m := of(seg, 0)
		for call := range 300 {
			// Numbers from ahead of what is there to behind it.
			at := int64(m.first + next(len(m.all)-m.first+2*seg) - seg)
			switch next(8) {
			case 0:
				x.Drop(at)
				m.drop(at)
			case 1:
				at = max(at, int64(len(m.all)-next(2*seg)))
				x.Cut(at)
				m.cut(at)
			case 2:
				old, was := x, &model{seg, m.first, m.all}
				x = x.Copy()
				x.Append([]byte("!"))
				m.append([]byte("!"))
				has(t, "what was copied", old, was)
			default:
				b := text(call, next(seg*5/4))
				x.Append(b)
				m.append(b)
			}
			has(t, "in between", x, m)
		}
		if m.first == 0 || len(m.all) < 1000 {
			t.Errorf("seed %d: from %d to %d, which is too little to tell anything", seed, m.first, len(m.all))
		}
	}
}

func TestExample(t *testing.T) {
	x, _ := of(64, 130)
	x.Drop(129)
	if x.First() != 128 || x.Segs() != 1 || x.End() != 130 || len(x.Bytes(0)) != 2 {
		t.Errorf("First %d, Segs %d", x.First(), x.Segs())
	}
}
