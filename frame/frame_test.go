package frame

import (
	"bytes"
	"math"
	"slices"
	"strings"
	"testing"

	"pledge/api"
	"pledge/crc"
)

// text is n bytes that hang on n and seed alone.
func text(n int, seed uint32) []byte {
	b := make([]byte, n)
	x := seed*2654435761 + uint32(n) + 1
	for i := range b {
		x = x*1664525 + 1013904223
		b[i] = byte(x >> 24)
	}
	return b
}

// framed is a frame as the chapter's words tell it, byte by byte; of any payload, and with what length and sum one likes.
func framed(n int, sum uint32, pay []byte) []byte {
	b := []byte{byte(n % 256), byte(n / 256)}
	for range 4 {
		b = append(b, byte(sum%256))
		sum /= 256
	}
	return append(b, pay...)
}

// right is the frame of a payload.
func right(pay []byte) []byte {
	return framed(len(pay), crc.Sum(pay), pay)
}

// row is the frames of payloads, one behind another.
func row(pays [][]byte) []byte {
	var b []byte
	for _, p := range pays {
		b = append(b, right(p)...)
	}
	return b
}

// pays are payloads of many lengths: the least, the most, and between.
func pays() [][]byte {
	var l [][]byte
	for n := 1; n <= api.MaxPay; n++ {
		l = append(l, text(n, uint32(n)))
	}
	for _, n := range []int{1, 2, 6, 255, 256, 257, 511, 512} {
		l = append(l, make([]byte, n), bytes.Repeat([]byte{0xff}, n))
	}
	return l
}

// wrongPut asks that a payload is not framed.
func wrongPut(t *testing.T, what string, pay []byte, want api.Errno) {
	t.Helper()
	if b, e := Put(pay); len(b) != 0 || e != want {
		t.Errorf("%s: %d bytes, error %d; want error %d", what, len(b), e, want)
	}
}

// next asks for what Next answers; with an error all else is nothing.
func next(t *testing.T, what string, b, pay []byte, n int, want api.Errno) {
	t.Helper()
	p, size, e := Next(b)
	if !bytes.Equal(p, pay) || size != n || e != want {
		t.Errorf("%s: payload % x, %d bytes, error %d; want % x, %d bytes, error %d", what, p, size, e, pay, n, want)
	}
}

// scanned asks for what Scan answers.
func scanned(t *testing.T, what string, b []byte, pays [][]byte, n int, want api.Errno) {
	t.Helper()
	l, size, e := Scan(b)
	if !slices.EqualFunc(l, pays, bytes.Equal) || size != n || e != want {
		t.Errorf("%s: %d payloads, %d bytes, error %d; want %d payloads, %d bytes, error %d", what, len(l), size, e, len(pays), n, want)
	}
}

// P10.1

func TestPutOfKnownPayloads(t *testing.T) {
	cases := []struct{ pay, frame string }{
		{"a", "\x01\x00\x43\xbe\xb7\xe8a"},
		{"\x00", "\x01\x00\x8d\xef\x02\xd2\x00"},
		{"abc", "\x03\x00\xc2\x41\x24\x35abc"},
		{"123456789", "\x09\x00\x26\x39\xf4\xcb123456789"},
		{strings.Repeat("\x00", 32), "\x20\x00\xad\x55\x0a\x19" + strings.Repeat("\x00", 32)},
	}
	for _, c := range cases {
		if b, e := Put([]byte(c.pay)); string(b) != c.frame || e != api.OK {
			t.Errorf("Put(%q) is % x, error %d; want % x", c.pay, b, e, c.frame)
		}
	}
}

func TestPutGoesByTheWords(t *testing.T) {
	for _, p := range pays() {
		if b, e := Put(p); !bytes.Equal(b, right(p)) || e != api.OK || len(b) != Size(len(p)) {
			t.Errorf("Put of %d bytes is % x, error %d; want % x", len(p), b, e, right(p))
		}
	}
}

func TestPutOfNothing(t *testing.T) {
	wrongPut(t, "nil", nil, api.ErrArg)
	wrongPut(t, "none", []byte{}, api.ErrArg)
	wrongPut(t, "none of some", []byte("abc")[:0], api.ErrArg)
}

func TestPutOfTooMuch(t *testing.T) {
	// Among them lengths that would be right ones in two bytes.
	for _, n := range []int{513, 514, 1024, 4096, 65535, 65536, 65537, 65536 + 512, 1<<24 + 1} {
		wrongPut(t, "too much", make([]byte, n), api.ErrLong)
	}
	if b, e := Put(make([]byte, 512)); len(b) != 518 || e != api.OK {
		t.Errorf("512 bytes: %d bytes, error %d", len(b), e)
	}
}

func TestSize(t *testing.T) {
	for n := -3; n <= 600; n++ {
		want := 0
		if n >= 1 && n <= 512 {
			want = n + 6
		}
		if s := Size(n); s != want {
			t.Errorf("Size(%d) is %d; want %d", n, s, want)
		}
	}
	for _, n := range []int{math.MinInt, math.MinInt + 1, -1<<32 + 1, -1 << 32, -65535, -512, -6, 65535, 65536, 65537, 1<<32 + 1, 1<<32 + 512, math.MaxInt - 6, math.MaxInt - 5, math.MaxInt} {
		if s := Size(n); s != 0 {
			t.Errorf("Size(%d) is %d; want 0", n, s)
		}
	}
}

// P10.2

func TestNextOfOneFrame(t *testing.T) {
	for _, p := range pays() {
		next(t, "a frame alone", right(p), p, len(p)+6, api.OK)
	}
}

func TestNextIsTheFirstFrame(t *testing.T) {
	for _, behind := range []string{"\x00", "\xff", "\x01\x00", "\x00\x00\x00\x00\x00\x00", "\xff\xff\xff\xff\xff\xff\xff", string(right([]byte("more"))), strings.Repeat("x", 5000)} {
		for _, p := range [][]byte{[]byte("a"), text(6, 1), text(255, 2), text(256, 3), text(512, 4)} {
			next(t, "a frame, and more", slices.Concat(right(p), []byte(behind)), p, len(p)+6, api.OK)
		}
	}
}

func TestNextOfLessThanAHead(t *testing.T) {
	next(t, "nil", nil, nil, 0, api.ErrShort)
	for _, b := range [][]byte{right([]byte("a")), make([]byte, 6), bytes.Repeat([]byte{0xff}, 6), {1, 2, 0, 0, 0, 0}} {
		for n := range 6 {
			next(t, "less than a head", b[:n], nil, 0, api.ErrShort)
		}
	}
}

func TestNextOfALengthThatMayNotBe(t *testing.T) {
	for _, n := range []int{0, 513, 514, 515, 768, 1024, 4096, 32768, 65535} {
		whole := text(n, 1)
		for _, b := range [][]byte{
			framed(n, 0, nil),
			framed(n, crc.Sum(nil), nil),
			framed(n, 0, make([]byte, 600)),
			framed(n, crc.Sum(whole), whole),
			framed(n, crc.Sum(whole)+1, whole),
			framed(n, crc.Sum(whole), whole[:n/2]),
			framed(n, crc.Sum(whole), append(whole, right([]byte("more"))...)),
		} {
			next(t, "a wrong length", b, nil, 0, api.ErrForm)
		}
	}
}

func TestNextOfEachLength(t *testing.T) {
	long := make([]byte, 6+65535)
	for n := range 65536 {
		h := framed(n, 0, nil)
		copy(long, h)
		if n >= 1 && n <= 512 {
			next(t, "a head alone", h, nil, 0, api.ErrShort)
			next(t, "a head, and many bytes", long, nil, 0, api.ErrSum)
		} else {
			next(t, "a head alone", h, nil, 0, api.ErrForm)
			next(t, "a head, and many bytes", long, nil, 0, api.ErrForm)
		}
	}
}

func TestNextOfTooFewBytes(t *testing.T) {
	for _, n := range []int{1, 2, 6, 7, 255, 256, 257, 511, 512} {
		b := right(text(n, 5))
		// With a wrong sum it is as short: that sum is of bytes that are not there.
		spoilt := slices.Clone(b)
		spoilt[2] ^= 1
		for cut := 6; cut < len(b); cut++ {
			next(t, "a frame, cut off", b[:cut], nil, 0, api.ErrShort)
			next(t, "a spoilt frame, cut off", spoilt[:cut], nil, 0, api.ErrShort)
		}
		next(t, "a frame", b, b[6:], len(b), api.OK)
		next(t, "a spoilt frame", spoilt, nil, 0, api.ErrSum)
	}
	// The bytes behind a slice's end aren't there, though its room has them.
	b := right([]byte("abc"))
	next(t, "a frame, cut off with room behind", b[:8:9], nil, 0, api.ErrShort)
}

func TestNextOfAnotherSum(t *testing.T) {
	for _, p := range pays() {
		for bit := range 32 {
			b := right(p)
			b[2+bit/8] ^= 1 << (bit % 8)
			next(t, "a sum with a bit turned", b, nil, 0, api.ErrSum)
		}
		s := crc.Sum(p)
		if back := s<<24 | s>>24 | s<<8&0xff0000 | s>>8&0xff00; back != s {
			next(t, "a sum, the highest byte first", framed(len(p), back, p), nil, 0, api.ErrSum)
		}
		if s != 0 {
			next(t, "no sum", framed(len(p), 0, p), nil, 0, api.ErrSum)
		}
	}
	// A shorter length than the payload's own: the sum is of other bytes.
	p := text(40, 6)
	for n := 1; n < 40; n++ {
		next(t, "a shorter length", framed(n, crc.Sum(p), p), nil, 0, api.ErrSum)
		next(t, "a shorter length, and its sum", framed(n, crc.Sum(p[:n]), p), p[:n], n+6, api.OK)
	}
}

func TestWhatIsPutIsNext(t *testing.T) {
	for _, p := range pays() {
		b, e := Put(p)
		if e != api.OK {
			t.Fatalf("Put of %d bytes: error %d", len(p), e)
		}
		next(t, "what was put", b, p, len(b), api.OK)
	}
}

// P10.3

func TestScanOfNothing(t *testing.T) {
	scanned(t, "nil", nil, nil, 0, api.OK)
	scanned(t, "none", []byte{}, nil, 0, api.OK)
}

func TestScanOfFrames(t *testing.T) {
	all := pays()
	for n := range 12 {
		for from := 0; from+n <= len(all); from += 37 {
			l := all[from : from+n]
			b := row(l)
			scanned(t, "frames", b, l, len(b), api.OK)
		}
	}
	b := row(all)
	scanned(t, "all frames", b, all, len(b), api.OK)
	same := slices.Repeat([][]byte{[]byte("a")}, 9)
	scanned(t, "the same one, nine times", row(same), same, 63, api.OK)
}

func TestScanOfAWholeLog(t *testing.T) {
	// As many of the least frames as a log has at most.
	l := slices.Repeat([][]byte{{7}}, api.MaxCap/7)
	b := row(l)
	scanned(t, "the least frames", b, l, len(b), api.OK)
	scanned(t, "the least frames, and a byte", append(b, 1), l, len(b), api.ErrShort)
}

func TestScanUpToWhatIsWrong(t *testing.T) {
	wrong := []struct {
		what string
		b    []byte
		want api.Errno
	}{
		{"one byte", []byte{1}, api.ErrShort},
		{"five bytes", []byte{0, 0, 0, 0, 0}, api.ErrShort},
		{"a head of noughts", make([]byte, 6), api.ErrForm},
		{"many noughts", make([]byte, 5000), api.ErrForm},
		{"too long a length", framed(513, crc.Sum(text(513, 1)), text(513, 1)), api.ErrForm},
		{"a head alone", framed(1, 0, nil), api.ErrShort},
		{"half a frame", framed(10, crc.Sum(text(10, 1)), text(10, 1)[:5]), api.ErrShort},
		{"a wrong sum", framed(10, crc.Sum(text(10, 1))^1, text(10, 1)), api.ErrSum},
		{"text", []byte("no frame at all"), api.ErrForm},
	}
	for _, w := range wrong {
		p, size, e := Next(w.b)
		if len(p) != 0 || size != 0 || e != w.want {
			t.Errorf("%s: %d bytes, error %d; want error %d", w.what, size, e, w.want)
		}
		for n := range 5 {
			ahead := pays()[n*50 : n*50+n]
			b := row(ahead)
			scanned(t, w.what, slices.Concat(b, w.b), ahead, len(b), w.want)
			if w.want != api.ErrShort {
				// Frames behind what is wrong play no part.
				scanned(t, w.what+", and frames", slices.Concat(b, w.b, row(ahead)), ahead, len(b), w.want)
			}
		}
	}
}

func TestScanGoesAsNextDoes(t *testing.T) {
	// Bytes of few values, so that lengths are small and heads are met in odd places; the frames' sums are at times right ones.
	seen := map[api.Errno]int{}
	for seed := range uint32(3000) {
		var b []byte
		for i, c := range text(12, seed) {
			switch p := text(int(c)%5+1, uint32(i)); c / 5 % 8 {
			case 0:
				b = append(b, text(int(c)%9, seed)...)
			case 1:
				b = append(b, framed(len(p), crc.Sum(p)^1<<(c%32), p)...)
			default:
				b = append(b, right(p)...)
			}
		}
		var want [][]byte
		at, e := 0, api.OK
		for e == api.OK && at < len(b) {
			var p []byte
			var n int
			if p, n, e = Next(b[at:]); e == api.OK {
				want = append(want, p)
				at += n
			}
		}
		seen[e]++
		scanned(t, "mixed bytes", b, want, at, e)
	}
	for _, e := range []api.Errno{api.OK, api.ErrShort, api.ErrForm, api.ErrSum} {
		if seen[e] == 0 {
			t.Errorf("error %d was never met", e)
		}
	}
}

// P10.4

func TestFramesCutOffAnywhere(t *testing.T) {
	for _, lens := range [][]int{{1}, {1, 1}, {2, 1, 3}, {512, 1, 256, 255, 257}, {6, 12, 512, 512, 7}} {
		var l [][]byte
		var b []byte
		ends := []int{0}
		for i, n := range lens {
			p := text(n, uint32(i)+9)
			f, e := Put(p)
			if e != api.OK {
				t.Fatalf("Put of %d bytes: error %d", n, e)
			}
			l = append(l, p)
			b = append(b, f...)
			ends = append(ends, len(b))
		}
		for cut := range len(b) + 1 {
			whole := 0
			for whole < len(l) && ends[whole+1] <= cut {
				whole++
			}
			want := api.ErrShort
			if ends[whole] == cut {
				want = api.OK
			}
			scanned(t, "frames, cut off", b[:cut], l[:whole], ends[whole], want)
		}
	}
}

// turned is b with bits turned, from one on (byte by byte, in each the lowest first), where the row of bits is 1.
func turned(b []byte, from int, bits uint32) []byte {
	c := slices.Clone(b)
	for i := range 32 {
		if bits>>i&1 == 1 {
			c[(from+i)/8] ^= 1 << ((from + i) % 8)
		}
	}
	return c
}

func TestBitsTurnedInAPayload(t *testing.T) {
	for _, n := range []int{1, 2, 3, 4, 5, 8, 17, 64} {
		l := [][]byte{text(3, 1), text(200, 2), text(n, 3), text(5, 4)}
		ahead, p, behind := row(l[:2]), l[2], row(l[3:])
		for from := range 8 * n {
			for width := 1; width <= 32 && from+width <= 8*n; width++ {
				all := uint32(1<<width - 1)
				ends := uint32(1 | 1<<(width-1))
				for _, bits := range []uint32{all, ends, ends | all&0x5a5a5a5a, ends | all&0x13579bdf} {
					b := slices.Concat(ahead, framed(n, crc.Sum(p), turned(p, from, bits)), behind)
					scanned(t, "a payload with bits turned", b, l[:2], len(ahead), api.ErrSum)
				}
			}
		}
	}
}

func TestBitsTurnedInTheLongestPayload(t *testing.T) {
	p := text(512, 5)
	for from := range 8 * 512 {
		for _, bits := range []uint32{1, 0x80000001, math.MaxUint32, 0xedb88320} {
			if bits != 1 && from > 8*512-32 {
				continue
			}
			b := framed(512, crc.Sum(p), turned(p, from, bits))
			scanned(t, "the first payload, with bits turned", b, nil, 0, api.ErrSum)
		}
	}
}

// Rule 4: what is handed in and out

func TestBytesThatAreHandedInAreLeftAlone(t *testing.T) {
	p := text(100, 1)
	was := slices.Clone(p)
	b, _ := Put(p)
	b[6] ^= 1
	if !bytes.Equal(p, was) {
		t.Error("what was put has changed")
	}
	b[6] ^= 1
	p[0] ^= 1
	if !bytes.Equal(b, right(was)) {
		t.Error("a frame changes by what was put")
	}
	all := row([][]byte{text(3, 1), text(4, 2), text(5, 3)})
	kept := slices.Clone(all)
	Next(all)
	Scan(all)
	Scan(all[:20])
	if !bytes.Equal(all, kept) {
		t.Error("what was scanned has changed")
	}
}

// spoil writes over a payload, and behind it as far as its room goes.
func spoil(p []byte) {
	p = p[:cap(p)]
	for i := range p {
		p[i] ^= 0xff
	}
}

func TestPayloadsAreOnesOwn(t *testing.T) {
	l := [][]byte{text(3, 1), text(4, 2), text(5, 3)}
	b := row(l)
	p, _, _ := Next(b)
	spoil(p)
	for i := range l {
		q, _, _ := Scan(b)
		r, _, _ := Scan(b)
		for j := range l {
			if j != i {
				spoil(q[j])
			}
		}
		if !bytes.Equal(q[i], l[i]) {
			t.Errorf("payload %d changes by another one of its answer", i)
		}
		spoil(q[i])
		q[i] = nil
		if !slices.EqualFunc(r, l, bytes.Equal) {
			t.Error("an answer changes by another one")
		}
	}
	if !bytes.Equal(b, row(l)) {
		t.Error("what was handed in changes by what was told")
	}
	p, _, _ = Next(b)
	q, _, _ := Scan(b)
	clear(b)
	if !bytes.Equal(p, l[0]) || !slices.EqualFunc(q, l, bytes.Equal) {
		t.Error("an answer changes by what was handed in")
	}
}

func TestExample(t *testing.T) {
	if b, e := Put([]byte("a")); !bytes.Equal(b, []byte{1, 0, 0x43, 0xbe, 0xb7, 0xe8, 0x61}) || e != api.OK {
		t.Errorf("% x, error %d", b, e)
	}
}
