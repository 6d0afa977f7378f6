package crc

import (
	"bytes"
	"math"
	"math/bits"
	"slices"
	"strings"
	"testing"
)

// word is the sum as the chapter's words tell it: bit by bit.
func word(b []byte) uint32 {
	r := uint32(math.MaxUint32)
	for _, x := range b {
		r ^= uint32(x)
		for range 8 {
			out := r & 1
			r >>= 1
			if out == 1 {
				r ^= 0xedb88320
			}
		}
	}
	return ^r
}

// text is n bytes that hang on n and seed alone.
func text(n int, seed uint32) []byte {
	b := make([]byte, n)
	x := seed*2654435761 + uint32(n) + 1
	for i := range b {
		x = x*1664525 + 1013904223
		b[i] = byte(x >> 24)
	}
	return b
}

// texts are bytes of many lengths: none, alike ones, and mixed ones.
func texts() [][]byte {
	l := [][]byte{nil, {}, []byte("123456789"), []byte(strings.Repeat("pledge", 100))}
	for n := 1; n <= 70; n++ {
		l = append(l, make([]byte, n), bytes.Repeat([]byte{0xff}, n), text(n, 1), text(n, 2))
	}
	for _, n := range []int{255, 256, 511, 512, 513, 4095, 4096, 4097, 65536} {
		l = append(l, make([]byte, n), bytes.Repeat([]byte{0xff}, n), text(n, 3))
	}
	return l
}

// turn turns a bit of b, counted byte by byte, in each the lowest one first.
func turn(b []byte, bit int) {
	b[bit/8] ^= 1 << (bit % 8)
}

// over puts texts of one length over each other by exclusive or.
func over(l ...[]byte) []byte {
	x := make([]byte, len(l[0]))
	for _, b := range l {
		for i := range b {
			x[i] ^= b[i]
		}
	}
	return x
}

// P2.1

func TestSumOfKnownTexts(t *testing.T) {
	cases := []struct {
		text string
		sum  uint32
	}{
		{"", 0},
		{"\x00", 0xd202ef8d},
		{"\xff", 0xff000000},
		{"a", 0xe8b7be43},
		{"abc", 0x352441c2},
		{"123456789", 0xcbf43926},
		{"The quick brown fox jumps over the lazy dog", 0x414fa339},
		{"\x00\x00\x00\x00", 0x2144df1c},
		{"\xff\xff\xff\xff", 0xffffffff},
		{strings.Repeat("\x00", 32), 0x190a55ad},
		{strings.Repeat("\xff", 32), 0xff6cab0b},
	}
	for _, c := range cases {
		if s := Sum([]byte(c.text)); s != c.sum {
			t.Errorf("Sum(%q) is %08x; want %08x", c.text, s, c.sum)
		}
	}
	if Sum(nil) != 0 || Sum([]byte{}) != 0 {
		t.Errorf("Sum of no bytes is %08x, %08x", Sum(nil), Sum([]byte{}))
	}
}

func TestSumOfOneByteAndOfTwo(t *testing.T) {
	for x := range 256 {
		one := []byte{byte(x)}
		if s, want := Sum(one), word(one); s != want {
			t.Errorf("Sum(%x) is %08x; want %08x", one, s, want)
		}
		for y := range 256 {
			two := []byte{byte(x), byte(y)}
			if s, want := Sum(two), word(two); s != want {
				t.Errorf("Sum(%x) is %08x; want %08x", two, s, want)
			}
		}
	}
}

func TestSumGoesByTheWords(t *testing.T) {
	for _, b := range texts() {
		if s, want := Sum(b), word(b); s != want {
			t.Errorf("the sum of %d bytes is %08x; want %08x", len(b), s, want)
		}
	}
}

func TestSame(t *testing.T) {
	for _, b := range texts() {
		s := word(b)
		if !Same(b, s) {
			t.Errorf("%d bytes don't have their sum %08x", len(b), s)
		}
		if Same(b, ^s) || Same(b, bits.Reverse32(s)) != (bits.Reverse32(s) == s) {
			t.Errorf("%d bytes have their sum %08x turned round", len(b), s)
		}
		for bit := range 32 {
			if wrong := s ^ 1<<bit; Same(b, wrong) {
				t.Errorf("%d bytes of the sum %08x have the sum %08x", len(b), s, wrong)
			}
		}
	}
	if !Same(nil, 0) || Same(nil, 1) || Same(nil, math.MaxUint32) || Same([]byte{0}, 0) {
		t.Error("of no bytes, and of one nought")
	}
}

func TestBytesAreLeftAlone(t *testing.T) {
	b := text(100, 7)
	was := slices.Clone(b)
	s := Sum(b)
	More(s, b)
	Same(b, s)
	if !slices.Equal(b, was) {
		t.Error("the bytes have changed")
	}
	if Sum(b) != s {
		t.Error("the sum is another one the second time")
	}
}

// P2.2

func TestMoreOfEachCut(t *testing.T) {
	for _, b := range texts() {
		if len(b) > 600 {
			continue
		}
		want := word(b)
		for cut := range len(b) + 1 {
			if s := More(Sum(b[:cut]), b[cut:]); s != want {
				t.Errorf("%d bytes, cut at %d: %08x; want %08x", len(b), cut, s, want)
			}
		}
	}
}

func TestMoreByteByByte(t *testing.T) {
	for _, b := range texts() {
		s := uint32(0)
		for i := range b {
			s = More(s, b[i:i+1])
		}
		if want := word(b); s != want {
			t.Errorf("%d bytes, one by one: %08x; want %08x", len(b), s, want)
		}
	}
}

func TestMoreOfNothing(t *testing.T) {
	for _, s := range []uint32{0, 1, 0xcbf43926, 1 << 31, math.MaxUint32 - 1, math.MaxUint32} {
		if More(s, nil) != s || More(s, []byte{}) != s {
			t.Errorf("%08x, with nothing behind: %08x, %08x", s, More(s, nil), More(s, []byte{}))
		}
	}
	for _, b := range texts() {
		if s, want := More(0, b), word(b); s != want {
			t.Errorf("%d bytes behind nothing: %08x; want %08x", len(b), s, want)
		}
	}
}

// ahead is the text of four bytes of which s is the sum: each number is the sum of one such text.
func ahead(s uint32) []byte {
	r := ^s
	for range 32 {
		if r>>31 == 1 {
			r = (r^0xedb88320)<<1 | 1
		} else {
			r <<= 1
		}
	}
	r = ^r
	return []byte{byte(r), byte(r >> 8), byte(r >> 16), byte(r >> 24)}
}

func TestMoreOfAnySum(t *testing.T) {
	sums := []uint32{0, 1, 2, 0xff, 0x100, 0xedb88320, 1 << 31, math.MaxUint32 - 1, math.MaxUint32}
	for i := range uint32(200) {
		sums = append(sums, i*2654435761+7)
	}
	for _, s := range sums {
		a := ahead(s)
		if Sum(a) != s {
			t.Fatalf("Sum(%x) is %08x; want %08x", a, Sum(a), s)
		}
		for _, n := range []int{0, 1, 2, 3, 4, 5, 33} {
			b := text(n, s)
			if x, want := More(s, b), word(slices.Concat(a, b)); x != want {
				t.Errorf("%d bytes behind the sum %08x: %08x; want %08x", n, s, x, want)
			}
		}
	}
}

// P2.3

// apart tells whether no exclusive or of some of l is 0.
func apart(l []uint32) bool {
	var rows [32]uint32 // by their highest bits
	for _, x := range l {
		for x != 0 && rows[bits.Len32(x)-1] != 0 {
			x ^= rows[bits.Len32(x)-1]
		}
		if x == 0 {
			return false
		}
		rows[bits.Len32(x)-1] = x
	}
	return true
}

// As a sum's change is the exclusive or of what its single bits change, no change within a row of 32 bits is left unseen if those of the single bits are apart.
func TestWhatDiffersWithin32BitsIsSeen(t *testing.T) {
	for _, n := range []int{1, 2, 3, 4, 5, 8, 16, 17, 64, 512} {
		for _, b := range [][]byte{make([]byte, n), bytes.Repeat([]byte{0xff}, n), text(n, 4)} {
			changes := make([]uint32, 8*n)
			for bit := range changes {
				c := slices.Clone(b)
				turn(c, bit)
				changes[bit] = Sum(c) ^ Sum(b)
			}
			for from := range changes {
				if !apart(changes[from:min(from+32, len(changes))]) {
					t.Errorf("of %d bytes, a change within 32 bits from bit %d on is not seen", n, from)
				}
			}
		}
	}
}

func TestRowsOfBitsThatDiffer(t *testing.T) {
	b := text(24, 5)
	s := Sum(b)
	for from := range 8 * len(b) {
		for width := 1; width <= 32 && from+width <= 8*len(b); width++ {
			for seed := range uint32(8) {
				c := slices.Clone(b)
				turn(c, from)
				if width > 1 {
					turn(c, from+width-1)
				}
				for i := 1; i < width-1; i++ {
					if seed == 1 || seed > 1 && text(width, seed)[i]&1 == 1 {
						turn(c, from+i)
					}
				}
				if Sum(c) == s || Same(c, s) {
					t.Errorf("%d bits from bit %d on, way %d: the sum is the same", width, from, seed)
				}
			}
		}
	}
}

func TestTheChangeOf33BitsThatIsNotSeen(t *testing.T) {
	b := text(16, 6)
	c := slices.Clone(b)
	// The 33 bits of what the register is divided by, the lowest power last.
	row := uint64(0xedb88320)<<1 | 1
	for i := range 33 {
		if row>>i&1 == 1 {
			turn(c, 13+i)
		}
	}
	if slices.Equal(b, c) || Sum(b) != Sum(c) {
		t.Errorf("the sums are %08x and %08x; want the same of two texts", Sum(b), Sum(c))
	}
}

func TestThreeTextsOverEachOther(t *testing.T) {
	for n := range 70 {
		fills := [][]byte{make([]byte, n), bytes.Repeat([]byte{0xff}, n), text(n, 8), text(n, 9), text(n, 10)}
		for _, a := range fills {
			for _, b := range fills {
				for _, c := range fills {
					if s, want := Sum(a)^Sum(b)^Sum(c), Sum(over(a, b, c)); s != want {
						t.Errorf("%x, %x, %x: %08x; want %08x", a, b, c, s, want)
					}
				}
			}
		}
	}
	a, b, c := text(5000, 11), text(5000, 12), text(5000, 13)
	if s, want := Sum(a)^Sum(b)^Sum(c), Sum(over(a, b, c)); s != want {
		t.Errorf("of 5000 bytes: %08x; want %08x", s, want)
	}
}
