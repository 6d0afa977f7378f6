package disk

import (
	"math"
	"slices"
	"strings"
	"testing"

	"pledge/api"
)

// face is what is told of a disk's volume and tape, byte by byte: of all bytes that came those ahead of first went.
type face struct {
	blocks []string
	first  int
	all    string
}

// call is one of Put, Append, Drop and Cut, as a test says it.
type call struct {
	what string
	i    int
	b    string
	at   int64
}

func puts(i int, b string) call { return call{what: "put", i: i, b: b} }

func appends(b string) call { return call{what: "append", b: b} }

func drops(keep int64) call { return call{what: "drop", at: keep} }

func cuts(end int64) call { return call{what: "cut", at: end} }

// model is what a disk must have: what is sure, and the calls that are pending.
type model struct {
	size, seg, most int
	sure            face
	pending         []call
}

// blank is a model without anything in it.
func blank(blocks, size, seg, most int) *model {
	return &model{size: size, seg: seg, most: most, sure: face{blocks: slices.Repeat([]string{strings.Repeat("\x00", size)}, blocks)}}
}

// after is what a face comes to by the first n bytes of a call; of one that has no bytes n is 1, if it is done.
func (m *model) after(f face, c call, n int) face {
	f.blocks = slices.Clone(f.blocks)
	switch c.what {
	case "put":
		b := c.b + strings.Repeat("\x00", m.size-len(c.b))
		n = min(n, m.size)
		f.blocks[c.i] = b[:n] + f.blocks[c.i][n:]
	case "append":
		f.all += c.b[:min(n, len(c.b))]
	case "drop":
		for n > 0 && f.first+m.seg <= len(f.all) && int64(f.first+m.seg) <= c.at {
			f.first += m.seg
		}
	case "cut":
		for n > 0 && len(f.all) > f.first && int64(len(f.all)) > c.at {
			f.all = f.all[:len(f.all)-1]
		}
	}
	return f
}

// seen is what is sure, and all that is pending behind it.
func (m *model) seen() face {
	f := m.sure
	for _, c := range m.pending {
		f = m.after(f, c, math.MaxInt)
	}
	return f
}

// wrong is the error of a call.
func (m *model) wrong(c call) api.Errno {
	f := m.seen()
	switch {
	case c.what == "put" && (c.i < 0 || c.i >= len(f.blocks)):
		return api.ErrArg
	case c.what == "put" && len(c.b) > m.size:
		return api.ErrLong
	case c.what == "append" && len(c.b) > 65536:
		return api.ErrLong
	case c.what == "append" && len(f.all)-f.first+len(c.b) > m.most:
		return api.ErrFull
	}
	return api.OK
}

// crash keeps the first calls, and the first bytes of the next one.
func (m *model) crash(keep, tear int) {
	for i, c := range m.pending {
		if i < keep {
			m.sure = m.after(m.sure, c, math.MaxInt)
		} else if i == max(keep, 0) && (c.what == "put" || c.what == "append") {
			m.sure = m.after(m.sure, c, max(tear, 0))
		}
	}
	m.pending = nil
}

// sync makes all sure.
func (m *model) sync() {
	m.sure, m.pending = m.seen(), nil
}

// copy is a model of the same that goes its own way.
func (m *model) copy() *model {
	c := *m
	c.pending = slices.Clone(m.pending)
	return &c
}

// does makes a call of a disk and of its model, and asks for the model's error.
func does(t *testing.T, d *Disk, m *model, c call) {
	t.Helper()
	e, want := api.OK, m.wrong(c)
	switch c.what {
	case "put":
		e = d.Put(c.i, []byte(c.b))
	case "append":
		e = d.Append([]byte(c.b))
	case "drop":
		d.Drop(c.at)
	case "cut":
		d.Cut(c.at)
	}
	told(t, c.what, e, want)
	if want == api.OK {
		m.pending = append(m.pending, c)
	}
}

// told asks for an error.
func told(t *testing.T, what string, e, want api.Errno) {
	t.Helper()
	if e != want {
		t.Errorf("%s: error %d; want %d", what, e, want)
	}
}

// has asks that a disk tells just what its model says.
func has(t *testing.T, what string, d *Disk, m *model) {
	t.Helper()
	if d.Pending() != len(m.pending) {
		t.Fatalf("%s: %d are pending; want %d", what, d.Pending(), len(m.pending))
	}
	tells(t, what, d, m, m.seen())
}

// surely asks that a disk has just that as sure what its model says, by a copy of which nothing that is pending is kept.
func surely(t *testing.T, what string, d *Disk, m *model) {
	t.Helper()
	c := d.Copy()
	c.Crash(0, 0)
	tells(t, what+", sure", c, m, m.sure)
}

// tells asks that a disk tells just a face.
func tells(t *testing.T, what string, d *Disk, m *model, f face) {
	t.Helper()
	if d.Blocks() != len(f.blocks) || d.Size() != m.size {
		t.Fatalf("%s: %d blocks of %d bytes; want %d of %d", what, d.Blocks(), d.Size(), len(f.blocks), m.size)
	}
	for i, b := range f.blocks {
		if is := d.Block(i); string(is) != b {
			t.Fatalf("%s: block %d is %q; want %q", what, i, is, b)
		}
	}
	for _, i := range append(odd(), len(f.blocks), len(f.blocks)+1) {
		if b := d.Block(i); (i < 0 || i >= len(f.blocks)) && b != nil {
			t.Fatalf("%s: block %d is %q", what, i, b)
		}
	}
	segs := (len(f.all)+m.seg-1)/m.seg - f.first/m.seg
	if d.First() != int64(f.first) || d.End() != int64(len(f.all)) || d.Segs() != segs {
		t.Fatalf("%s: from %d to %d, %d segments; want from %d to %d, %d segments", what, d.First(), d.End(), d.Segs(), f.first, len(f.all), segs)
	}
	for _, from := range froms(f, m.seg) {
		want := f.all[min(max(from, int64(f.first)), int64(len(f.all))):]
		if is := d.Bytes(from); string(is) != want || want == "" && is != nil {
			t.Fatalf("%s: from %d on %d bytes: %q; want %d: %q", what, from, len(is), is, len(want), want)
		}
	}
}

// froms are numbers in, at and outside of a face's tape.
func froms(f face, seg int) []int64 {
	l := []int64{}
	for _, i := range odd() {
		l = append(l, int64(i))
	}
	for _, i := range []int{0, f.first, f.first + seg, len(f.all)} {
		l = append(l, int64(i-1), int64(i), int64(i+1))
	}
	return l
}

// odd are numbers below 0 and beyond all limits, among them some that would be right ones in fewer bits.
func odd() []int {
	return append(below(), far()...)
}

func below() []int {
	return []int{math.MinInt, math.MinInt + 1, -1 << 32, -1<<32 + 1, -65536, -65535, -256, -64, -2, -1}
}

func far() []int {
	return []int{1 << 21, 1<<32 + 1, 1<<32 + 64, math.MaxInt - 1, math.MaxInt}
}

// text is n bytes that go on from those that text has told for from.
func text(from, n int) string {
	var b []byte
	for i := range n {
		b = append(b, byte('!'+(from+i)%89))
	}
	return string(b)
}
