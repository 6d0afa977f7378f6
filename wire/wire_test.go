package wire

import (
	"bytes"
	"math"
	"slices"
	"testing"

	"pledge/api"
)

// low is x's n lowest bytes, the lowest first, by division.
func low(x uint64, n int) []byte {
	var b []byte
	for range n {
		b = append(b, byte(x%256))
		x /= 256
	}
	return b
}

// numbers are numbers next to where the bytes' edges are.
func numbers() []uint64 {
	l := []uint64{0, 1, 2, 258, 0x0102030405060708, 0xf0e0d0c0b0a09080, math.MaxUint64 - 1, math.MaxUint64}
	for bit := range 64 {
		l = append(l, 1<<bit-1, 1<<bit, 1<<bit+1)
	}
	return l
}

// signed are numbers with a sign, next to 0, to the bytes' edges and to the ends.
func signed() []int64 {
	var l []int64
	for _, x := range numbers() {
		l = append(l, int64(x), -int64(x))
	}
	return append(l, math.MinInt64, math.MinInt64+1, math.MaxInt64)
}

// text is n bytes that hang on n and seed alone.
func text(n int, seed uint32) []byte {
	b := make([]byte, n)
	x := seed*2654435761 + uint32(n) + 1
	for i := range b {
		x = x*1664525 + 1013904223
		b[i] = byte(x >> 24)
	}
	return b
}

// written asks that a writer has just these bytes.
func written(t *testing.T, what string, w *Writer, want []byte) {
	t.Helper()
	if b, e := w.Done(); e != api.OK || !bytes.Equal(b, want) || w.Len() != len(want) {
		t.Errorf("%s: % x, error %d, length %d; want % x", what, b, e, w.Len(), want)
	}
}

// stuck asks that something was wrong with a writer that has so many bytes, and that nothing more is written.
func stuck(t *testing.T, what string, w *Writer, n int, want api.Errno) {
	t.Helper()
	for i := range 7 {
		if b, e := w.Done(); len(b) != 0 || e != want || w.Len() != n {
			t.Errorf("%s, and %d more calls: % x, error %d, length %d; want error %d, length %d", what, i, b, e, w.Len(), want, n)
		}
		switch i {
		case 0:
			w.Num(1, 1)
		case 1:
			w.Num(1, 0)
		case 2:
			w.Int(1)
		case 3:
			w.Bool(true)
		case 4:
			w.Bytes([]byte{1})
		case 5:
			w.Raw(1)
			w.Raw()
			w.Raw(make([]byte, 1000)...)
		}
	}
}

// spoilt asks that something was wrong with a reader, and that nothing more is read.
func spoilt(t *testing.T, what string, r *Reader, want api.Errno) {
	t.Helper()
	for i := range 3 {
		if r.Err() != want || r.End() != want || r.Left() != 0 {
			t.Errorf("%s, round %d: Err %d, End %d, Left %d; want error %d", what, i, r.Err(), r.End(), r.Left(), want)
		}
		if x := r.Num(1); x != 0 {
			t.Errorf("%s: Num is %d", what, x)
		}
		if x := r.Num(9); x != 0 {
			t.Errorf("%s: Num of 9 bytes is %d", what, x)
		}
		if x := r.Int(); x != 0 {
			t.Errorf("%s: Int is %d", what, x)
		}
		if r.Bool() {
			t.Errorf("%s: Bool is true", what)
		}
		for _, most := range []int{-1, 0, 1, 65535} {
			if b := r.Bytes(most); len(b) != 0 {
				t.Errorf("%s: Bytes are % x", what, b)
			}
		}
	}
}

// P3.1

func TestNumIsWritten(t *testing.T) {
	for _, x := range numbers() {
		for size := 1; size <= 8; size++ {
			w := New(8)
			w.Num(x, size)
			if size < 8 && x >= 1<<(8*size) {
				stuck(t, "a number that does not fit", w, 0, api.ErrArg)
			} else {
				written(t, "a number", w, low(x, size))
			}
		}
	}
	w := New(2)
	w.Num(258, 2)
	written(t, "258 in 2", w, []byte{2, 1})
}

func TestNumOfAWrongSize(t *testing.T) {
	for _, size := range []int{math.MinInt, -64, -8, -1, 0, 9, 10, 16, 64, 256 + 1, 1<<32 + 1, math.MaxInt} {
		for _, x := range []uint64{0, 1, math.MaxUint64} {
			w := New(100)
			w.Raw(5)
			w.Num(x, size)
			stuck(t, "a wrong size", w, 1, api.ErrArg)
		}
	}
}

func TestNumThatIsWrongAndHasNoRoom(t *testing.T) {
	for _, size := range []int{0, 1, 9} {
		w := New(0)
		w.Num(256, size)
		stuck(t, "a wrong number without room", w, 0, api.ErrArg)
	}
}

func TestIntIsWritten(t *testing.T) {
	for _, x := range signed() {
		w := New(8)
		w.Int(x)
		// As it stands in 64 bits: below 0 it is so much less than 2^64, which goes round.
		written(t, "a number with a sign", w, low(uint64(x), 8))
	}
	w := New(24)
	w.Int(-1)
	w.Int(-2)
	w.Int(math.MinInt64)
	written(t, "-1, -2, the least", w, []byte("\xff\xff\xff\xff\xff\xff\xff\xff\xfe\xff\xff\xff\xff\xff\xff\xff\x00\x00\x00\x00\x00\x00\x00\x80"))
}

func TestBoolIsWritten(t *testing.T) {
	w := New(3)
	w.Bool(true)
	w.Bool(false)
	w.Bool(true)
	written(t, "truths", w, []byte{1, 0, 1})
	w.Bool(false)
	stuck(t, "a truth without room", w, 3, api.ErrLong)
}

func TestBytesAreWritten(t *testing.T) {
	w := New(4)
	w.Bytes([]byte("ab"))
	written(t, "ab", w, []byte("\x02\x00ab"))
	for _, n := range []int{0, 1, 2, 255, 256, 257, 511, 512, 4096, 65534, 65535} {
		w := New(n + 2)
		w.Bytes(text(n, 1))
		written(t, "bytes", w, slices.Concat(low(uint64(n), 2), text(n, 1)))
	}
	w = New(4)
	w.Bytes(nil)
	w.Bytes([]byte{})
	written(t, "no bytes, twice", w, []byte{0, 0, 0, 0})
}

func TestBytesThatAreTooMany(t *testing.T) {
	for _, n := range []int{65536, 65537, 65536 + 2, 1 << 17} {
		w := New(math.MaxInt)
		w.Raw(1)
		w.Bytes(make([]byte, n))
		stuck(t, "bytes beyond 65535", w, 1, api.ErrLong)
	}
}

func TestRawIsWritten(t *testing.T) {
	w := New(300)
	w.Raw()
	w.Raw(7)
	w.Raw(8, 9)
	w.Raw(nil...)
	w.Raw(text(256, 2)...)
	written(t, "raw bytes", w, slices.Concat([]byte{7, 8, 9}, text(256, 2)))
}

func TestWhatIsTooLongIsNotWrittenAtAll(t *testing.T) {
	cases := []struct {
		what string
		size int
		call func(w *Writer)
	}{
		{"Num of 1", 1, func(w *Writer) { w.Num(255, 1) }},
		{"Num of 3", 3, func(w *Writer) { w.Num(255, 3) }},
		{"Num of 8", 8, func(w *Writer) { w.Num(255, 8) }},
		{"Int", 8, func(w *Writer) { w.Int(-255) }},
		{"Bool", 1, func(w *Writer) { w.Bool(true) }},
		{"Bytes of none", 2, func(w *Writer) { w.Bytes(nil) }},
		{"Bytes of 3", 5, func(w *Writer) { w.Bytes([]byte("abc")) }},
		{"Raw of 4", 4, func(w *Writer) { w.Raw(1, 2, 3, 4) }},
	}
	for _, c := range cases {
		for ahead := range 4 {
			for room := range c.size {
				w := New(ahead + room)
				w.Raw(text(ahead, 3)...)
				c.call(w)
				stuck(t, c.what, w, ahead, api.ErrLong)
			}
			w := New(ahead + c.size)
			w.Raw(text(ahead, 3)...)
			c.call(w)
			if b, e := w.Done(); e != api.OK || len(b) != ahead+c.size {
				t.Errorf("%s with just enough room: % x, error %d", c.what, b, e)
			}
			w.Raw()
			if b, e := w.Done(); e != api.OK || len(b) != ahead+c.size {
				t.Errorf("%s, and nothing behind: % x, error %d", c.what, b, e)
			}
			w.Raw(1)
			stuck(t, c.what+" and one byte more", w, ahead+c.size, api.ErrLong)
		}
	}
}

func TestTheFirstThatWasWrongIsTold(t *testing.T) {
	w := New(1)
	w.Raw(1, 2)
	w.Num(256, 1)
	stuck(t, "long, then a wrong number", w, 0, api.ErrLong)
	w = New(1)
	w.Num(256, 1)
	w.Raw(1, 2)
	stuck(t, "a wrong number, then long", w, 0, api.ErrArg)
}

func TestNewOfAnyNumber(t *testing.T) {
	for _, most := range []int{math.MinInt, -8, -1, 0} {
		w := New(most)
		written(t, "nothing", w, nil)
		w.Raw()
		written(t, "nothing", w, nil)
		w.Raw(0)
		stuck(t, "no room", w, 0, api.ErrLong)
	}
	w := New(math.MaxInt)
	w.Int(3)
	w.Bytes([]byte("x"))
	written(t, "all the room", w, []byte("\x03\x00\x00\x00\x00\x00\x00\x00\x01\x00x"))
}

func TestWritersOfNoCall(t *testing.T) {
	var none *Writer
	stuck(t, "nil", none, 0, api.ErrArg)
	var w Writer
	written(t, "no call's", &w, nil)
	w.Bool(false)
	stuck(t, "no call's", &w, 0, api.ErrLong)
}

func TestWritersKeepTheirOwn(t *testing.T) {
	in := []byte("abc")
	w, v := New(100), New(100)
	w.Raw(in...)
	w.Bytes(in)
	v.Raw(in...)
	if string(in) != "abc" {
		t.Errorf("what was handed in is %q", in)
	}
	in[0] = 'x'
	b, _ := w.Done()
	c, _ := w.Done()
	b[1], b[2] = 'y', 'y'
	want := []byte("abc\x03\x00abc")
	if !bytes.Equal(c, want) {
		t.Errorf("the second answer is %q", c)
	}
	written(t, "behind changes", w, want)
	w.Raw('d')
	if !bytes.Equal(c, want) {
		t.Errorf("writing changed what was told: %q", c)
	}
	written(t, "going on", w, append(want, 'd'))
	written(t, "the other one", v, []byte("abc"))
}

// P3.2

func TestNumIsRead(t *testing.T) {
	for size := 1; size <= 8; size++ {
		for _, x := range numbers() {
			if size < 8 {
				x %= 1 << (8 * size)
			}
			r := Read(append(low(x, size), 9, 8))
			if y := r.Num(size); y != x || r.Left() != 2 || r.Err() != api.OK {
				t.Errorf("Num(%d) is %d, %d left, error %d; want %d", size, y, r.Left(), r.Err(), x)
			}
			if y := r.Num(2); y != 8*256+9 || r.Left() != 0 || r.End() != api.OK {
				t.Errorf("what is behind is %d, %d left, error %d", y, r.Left(), r.End())
			}
		}
		for n := range size {
			r := Read(text(n, 4))
			if x := r.Num(size); x != 0 {
				t.Errorf("Num(%d) of %d bytes is %d", size, n, x)
			}
			spoilt(t, "too few bytes of a number", r, api.ErrShort)
		}
	}
}

func TestNumIsReadOfAWrongSize(t *testing.T) {
	for _, size := range []int{math.MinInt, -8, -1, 0, 9, 16, 256 + 1, 1<<32 + 1, math.MaxInt} {
		for _, n := range []int{0, 1, 20} {
			r := Read(text(n, 5))
			if x := r.Num(size); x != 0 {
				t.Errorf("Num(%d) is %d", size, x)
			}
			spoilt(t, "a wrong size", r, api.ErrArg)
		}
	}
}

func TestIntIsRead(t *testing.T) {
	for _, x := range signed() {
		r := Read(append(low(uint64(x), 8), 1))
		if y := r.Int(); y != x || r.Left() != 1 || r.Err() != api.OK {
			t.Errorf("Int is %d, %d left, error %d; want %d", y, r.Left(), r.Err(), x)
		}
	}
	for n := range 8 {
		r := Read(bytes.Repeat([]byte{0xff}, n))
		if x := r.Int(); x != 0 {
			t.Errorf("Int of %d bytes is %d", n, x)
		}
		spoilt(t, "too few bytes of a number with a sign", r, api.ErrShort)
	}
}

func TestBoolIsRead(t *testing.T) {
	for x := range 256 {
		r := Read([]byte{byte(x), 1})
		is := r.Bool()
		if is != (x == 1) {
			t.Errorf("Bool of %d is %v", x, is)
		}
		if x > 1 {
			spoilt(t, "no truth", r, api.ErrForm)
		} else if r.Err() != api.OK || r.Left() != 1 || !r.Bool() || r.End() != api.OK {
			t.Errorf("behind the truth %d: %d left, error %d", x, r.Left(), r.End())
		}
	}
	r := Read(nil)
	if r.Bool() {
		t.Error("Bool of nothing is true")
	}
	spoilt(t, "no byte of a truth", r, api.ErrShort)
}

func TestBytesAreRead(t *testing.T) {
	for _, n := range []int{0, 1, 2, 255, 256, 257, 512, 65534, 65535} {
		for _, most := range []int{n, n + 1, 65536, math.MaxInt} {
			r := Read(slices.Concat(low(uint64(n), 2), text(n, 6), []byte{7}))
			if b := r.Bytes(most); !bytes.Equal(b, text(n, 6)) || r.Left() != 1 || r.Err() != api.OK {
				t.Errorf("Bytes(%d) are %d ones, %d left, error %d; want %d", most, len(b), r.Left(), r.Err(), n)
			}
		}
	}
}

func TestBytesThatMayNotBeRead(t *testing.T) {
	cases := []struct {
		what string
		in   string
		most int
		want api.Errno
	}{
		{"no length", "", 9, api.ErrShort},
		{"half a length", "\x01", 9, api.ErrShort},
		{"no length, of fewer than none", "", -1, api.ErrShort},
		{"half a length, of none", "\x09", 0, api.ErrShort},
		{"none of one", "\x01\x00", 1, api.ErrShort},
		{"two of three", "\x03\x00ab", 3, api.ErrShort},
		{"two of three, of two", "\x03\x00ab", 2, api.ErrLong},
		{"three of three, of two", "\x03\x00abc", 2, api.ErrLong},
		{"one, of none", "\x01\x00a", 0, api.ErrLong},
		{"none, of fewer than none", "\x00\x00", -1, api.ErrLong},
		{"none, of the least", "\x00\x00a", math.MinInt, api.ErrLong},
		{"65535 that are not there", "\xff\xffabc", math.MaxInt, api.ErrShort},
		{"65535 that are not there, of one less", "\xff\xffabc", 65534, api.ErrLong},
		{"256 that are not there", "\x00\x01abc", 256, api.ErrShort},
		{"256 that are not there, of one less", "\x00\x01abc", 255, api.ErrLong},
	}
	for _, c := range cases {
		r := Read([]byte(c.in))
		if b := r.Bytes(c.most); len(b) != 0 {
			t.Errorf("%s: % x", c.what, b)
		}
		spoilt(t, c.what, r, c.want)
	}
}

func TestTheFirstThatWasWrongIsReadFirst(t *testing.T) {
	r := Read([]byte{2, 0, 'a', 'b', 7})
	if string(r.Bytes(2)) != "ab" || r.Bool() {
		t.Error("ab, and no truth")
	}
	spoilt(t, "no truth, then wrong sizes", r, api.ErrForm)
	r = Read([]byte{1})
	if r.Num(1) != 1 || r.End() != api.OK || r.Err() != api.OK {
		t.Error("one byte")
	}
	r.Num(9)
	spoilt(t, "a wrong size, then short", r, api.ErrArg)
	r = Read([]byte{1})
	r.Num(2)
	spoilt(t, "short, though a byte is left", r, api.ErrShort)
}

func TestEndOnlyTells(t *testing.T) {
	r := Read([]byte{1, 1, 4})
	for left := 3; left > 0; left-- {
		if r.End() != api.ErrForm || r.Err() != api.OK || r.Left() != left {
			t.Errorf("of %d: End %d, Err %d, Left %d", left, r.End(), r.Err(), r.Left())
		}
		r.Num(1)
	}
	if r.End() != api.OK || r.Err() != api.OK || r.Left() != 0 {
		t.Errorf("at the end: End %d, Err %d, Left %d", r.End(), r.Err(), r.Left())
	}
	r.Num(1)
	spoilt(t, "behind the end", r, api.ErrShort)
}

func TestReadersOfNoCall(t *testing.T) {
	var none *Reader
	spoilt(t, "nil", none, api.ErrArg)
	for _, r := range []*Reader{{}, Read(nil), Read([]byte{})} {
		if r.Err() != api.OK || r.End() != api.OK || r.Left() != 0 {
			t.Errorf("of nothing: Err %d, End %d, Left %d", r.Err(), r.End(), r.Left())
		}
		r.Bytes(5)
		spoilt(t, "of nothing", r, api.ErrShort)
	}
}

func TestReadersKeepTheirOwn(t *testing.T) {
	in := []byte("\x03\x00abc\x03\x00abc")
	r, q := Read(in), Read(in)
	in[2] = 'x'
	b := r.Bytes(3)
	if string(b) != "abc" {
		t.Errorf("behind a change of what was handed in: %q", b)
	}
	for i := range b {
		b[i] = 0xff
	}
	_ = append(b, 0xff, 0xff)
	if c := r.Bytes(3); string(c) != "abc" || r.End() != api.OK {
		t.Errorf("behind a change of what was told: %q, error %d", c, r.End())
	}
	if c := q.Bytes(3); string(c) != "abc" || q.Left() != 5 {
		t.Errorf("the other one: %q, %d left", c, q.Left())
	}
	if string(in) != "\x03\x00xbc\x03\x00abc" {
		t.Errorf("what was handed in is %q", in)
	}
}

// P3.3

// piece is one call's number, truth or bytes.
type piece struct {
	kind, size int
	x          uint64
	b          []byte
}

// pieces are so many calls that hang on seed alone.
func pieces(n int, seed uint32) []piece {
	var l []piece
	for i, c := range text(n, seed) {
		s := uint32(i) + seed
		p := piece{kind: int(c) % 4, size: int(c)/4%8 + 1}
		r := text(8, s)
		switch p.kind {
		case 0:
			for _, y := range r[:p.size] {
				p.x = p.x<<8 | uint64(y)
			}
		case 1:
			for _, y := range r {
				p.x = p.x<<8 | uint64(y)
			}
		case 2:
			p.x = uint64(c >> 7)
		case 3:
			p.b = text(int(c)*int(c)/97, s)
		}
		l = append(l, p)
	}
	return l
}

func write(w *Writer, l []piece) {
	for _, p := range l {
		switch p.kind {
		case 0:
			w.Num(p.x, p.size)
		case 1:
			w.Int(int64(p.x))
		case 2:
			w.Bool(p.x == 1)
		case 3:
			w.Bytes(p.b)
		}
	}
}

// read reads pieces of the kinds and sizes of l.
func read(r *Reader, l []piece) []piece {
	var all []piece
	for _, p := range l {
		q := piece{kind: p.kind, size: p.size}
		switch p.kind {
		case 0:
			q.x = r.Num(p.size)
		case 1:
			q.x = uint64(r.Int())
		case 2:
			if r.Bool() {
				q.x = 1
			}
		case 3:
			q.b = r.Bytes(65535)
		}
		all = append(all, q)
	}
	return all
}

func same(a, b []piece) bool {
	return slices.EqualFunc(a, b, func(p, q piece) bool {
		return p.kind == q.kind && p.size == q.size && p.x == q.x && bytes.Equal(p.b, q.b)
	})
}

func TestWhatWasWrittenIsRead(t *testing.T) {
	for seed := range uint32(300) {
		l := pieces(int(seed)%40, seed)
		w := New(math.MaxInt)
		write(w, l)
		b, e := w.Done()
		if e != api.OK {
			t.Fatalf("seed %d: error %d", seed, e)
		}
		r := Read(b)
		if got := read(r, l); !same(got, l) || r.End() != api.OK {
			t.Errorf("seed %d: %v, error %d; want %v", seed, got, r.End(), l)
		}
		if len(b) > 0 {
			r := Read(b[:len(b)-1])
			read(r, l)
			spoilt(t, "cut off", r, api.ErrShort)
		}
		r = Read(append(b, 0))
		if got := read(r, l); !same(got, l) || r.Err() != api.OK || r.Left() != 1 || r.End() != api.ErrForm {
			t.Errorf("seed %d, and a byte: Err %d, Left %d, End %d", seed, r.Err(), r.Left(), r.End())
		}
	}
}

func TestWhatWasReadIsWrittenSo(t *testing.T) {
	// All bytes of short texts, read as each row of three kinds, and as a row that takes all.
	whole := 0
	for n := range 7 {
		for seed := range uint32(400) {
			b := text(n, seed)
			for i := range b {
				if seed&(1<<i) != 0 {
					b[i] &= 1
				}
			}
			for row := range 64 {
				l := []piece{{kind: row % 4, size: n/2 + 1}, {kind: row / 4 % 4, size: 1}, {kind: row / 16, size: 2}}
				for k := range len(l) + 1 {
					r := Read(b)
					got := read(r, l[:k])
					if r.End() != api.OK {
						continue
					}
					whole++
					w := New(n)
					write(w, got)
					written(t, "what was read", w, b)
				}
			}
		}
	}
	if whole < 1000 {
		t.Errorf("only %d texts were read whole", whole)
	}
}
