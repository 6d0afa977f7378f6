package master

import (
	"bytes"
	"math"
	"math/rand"
	"slices"
	"testing"

	"pledge/api"
)

const (
	least    = math.MinInt64
	greatest = math.MaxInt64
	last     = math.MaxUint64
)

// made is a master.
func made(gen uint64, area uint8, redo, tab, size int64) api.Master {
	return api.Master{Gen: gen, Area: area, Redo: redo, Tab: tab, Size: size}
}

// gens are numbers of images that may be, next to the bytes' edges and to the ends; some share bytes with others.
func gens() []uint64 {
	l := []uint64{0x0102030405060708, 0x0807060504030201, 0x0101010101010101, 0x0101010101010102, 0x0201010101010101, last - 1}
	for bit := range 64 {
		l = append(l, 1<<bit, last>>bit)
	}
	slices.Sort(l)
	return slices.Compact(l)
}

// places are numbers that Redo and Size may have.
func places() []int64 {
	return []int64{0, 1, 2, 255, 256, 0x1112131415161718, math.MaxInt32, math.MaxUint32 + 1, greatest - 1, greatest}
}

// goods are masters that may be.
func goods() []api.Master {
	var l []api.Master
	for i, gen := range gens() {
		l = append(l, made(gen, uint8(i%2), int64(i), int64(i+i%3), int64(7*i)))
	}
	for i, p := range places() {
		l = append(l, made(1, uint8(i%2), 0, 0, p), made(2, uint8(i%2), 0, p, 0), made(3, uint8(i%2), p, p, 1), made(last, 1, p, greatest, p))
	}
	return l
}

// bads are masters that may not be, each in one way.
func bads() []api.Master {
	l := []api.Master{
		{},
		made(0, 0, 1, 2, 3),
		made(0, 1, 0, 0, 0),
		made(1, 0, -1, 0, 0),
		made(1, 0, -1, -1, 0),
		made(1, 0, least, greatest, 0),
		made(1, 0, least, least, 0),
		made(1, 0, 0, 0, -1),
		made(1, 0, 0, 0, least),
		made(1, 1, 0, -1, 0),
		made(1, 1, 0, least, 0),
		made(1, 1, 3, 2, 0),
		made(1, 1, greatest, greatest-1, 0),
		made(1, 1, greatest, 0, 9),
	}
	for area := 2; area < 256; area++ {
		l = append(l, made(uint64(area), uint8(area), 1, 2, 3))
	}
	return l
}

// low is x's n lowest bytes, the lowest first, by division.
func low(x uint64, n int) []byte {
	var b []byte
	for range n {
		b = append(b, byte(x%256))
		x /= 256
	}
	return b
}

// sum is the sum of bytes as its chapter's words tell it, bit by bit.
func sum(b []byte) uint32 {
	r := uint32(math.MaxUint32)
	for _, x := range b {
		r ^= uint32(x)
		for range 8 {
			out := r & 1
			r >>= 1
			if out == 1 {
				r ^= 0xedb88320
			}
		}
	}
	return ^r
}

// told is what a master's bytes say ahead of the sum, whether or not it may be.
func told(m api.Master) []byte {
	return slices.Concat(low(m.Gen, 8), []byte{m.Area}, low(uint64(m.Redo), 8), low(uint64(m.Tab), 8), low(uint64(m.Size), 8))
}

// with is a master's bytes with any sum, and any number Gen behind it.
func with(m api.Master, s uint32, gen uint64) []byte {
	return slices.Concat(told(m), low(uint64(s), 4), low(gen, 8))
}

// right is a master's bytes as the chapter's words tell them, whether or not it may be.
func right(m api.Master) []byte {
	return with(m, sum(told(m)), m.Gen)
}

// decoded asks for what Decode answers; with an error the master is nothing.
func decoded(t *testing.T, what string, b []byte, want api.Master, wrong api.Errno) {
	t.Helper()
	if m, e := Decode(b); m != want || e != wrong {
		t.Errorf("%s: Decode of % x is %v, error %d; want %v, error %d", what, b, m, e, want, wrong)
	}
}

// refused asks that Decode answers an error, and nothing else.
func refused(t *testing.T, what string, b []byte, wrong api.Errno) {
	t.Helper()
	decoded(t, what, b, api.Master{}, wrong)
}

// picked asks for what Pick answers.
func picked(t *testing.T, what string, a, b []byte, want api.Master, slot int, wrong api.Errno) {
	t.Helper()
	if m, k, e := Pick(a, b); m != want || k != slot || e != wrong {
		t.Errorf("%s: Pick of % x and % x is %v, slot %d, error %d; want %v, slot %d, error %d", what, a, b, m, k, e, want, slot, wrong)
	}
}

// P16.1

func TestGood(t *testing.T) {
	for _, m := range goods() {
		if !Good(m) {
			t.Errorf("%v may be", m)
		}
	}
	for _, m := range bads() {
		if Good(m) {
			t.Errorf("%v may not be", m)
		}
	}
}

func TestGoodGoesByTheWords(t *testing.T) {
	edges := []int64{least, least + 1, -256, -2, -1, 0, 1, 2, 256, greatest - 1, greatest}
	for _, gen := range []uint64{0, 1, 256, 1 << 63, last} {
		for _, area := range []uint8{0, 1, 2, 3, 127, 128, 254, 255} {
			for _, redo := range edges {
				for _, tab := range edges {
					for _, size := range edges {
						want := gen != 0 && (area == 0 || area == 1) && redo >= 0 && size >= 0 && tab >= redo
						if m := made(gen, area, redo, tab, size); Good(m) != want {
							t.Fatalf("Good(%v) is %v", m, !want)
						}
					}
				}
			}
		}
	}
}

// P16.2

// known are masters whose bytes were reckoned by other means.
func known() []struct {
	m api.Master
	b string
} {
	return []struct {
		m api.Master
		b string
	}{
		{made(1, 0, 0, 0, 0), "\x01\x00\x00\x00\x00\x00\x00\x00\x00\x00\x00\x00\x00\x00\x00\x00\x00\x00\x00\x00\x00\x00\x00\x00\x00\x00\x00\x00\x00\x00\x00\x00\x00\x7e\xaa\x8e\x4c\x01\x00\x00\x00\x00\x00\x00\x00"},
		{made(255, 0, 1, 1, 0), "\xff\x00\x00\x00\x00\x00\x00\x00\x00\x01\x00\x00\x00\x00\x00\x00\x00\x01\x00\x00\x00\x00\x00\x00\x00\x00\x00\x00\x00\x00\x00\x00\x00\x33\xbf\x06\xa1\xff\x00\x00\x00\x00\x00\x00\x00"},
		{made(256, 1, 2, 7, 3), "\x00\x01\x00\x00\x00\x00\x00\x00\x01\x02\x00\x00\x00\x00\x00\x00\x00\x07\x00\x00\x00\x00\x00\x00\x00\x03\x00\x00\x00\x00\x00\x00\x00\xb0\x9c\x60\x84\x00\x01\x00\x00\x00\x00\x00\x00"},
		{made(0x0102030405060708, 1, 0x1112131415161718, 0x2122232425262728, 0x3132333435363738), "\x08\x07\x06\x05\x04\x03\x02\x01\x01\x18\x17\x16\x15\x14\x13\x12\x11\x28\x27\x26\x25\x24\x23\x22\x21\x38\x37\x36\x35\x34\x33\x32\x31\xb5\xa3\xe2\xbe\x08\x07\x06\x05\x04\x03\x02\x01"},
		{made(last, 1, greatest, greatest, greatest), "\xff\xff\xff\xff\xff\xff\xff\xff\x01\xff\xff\xff\xff\xff\xff\xff\x7f\xff\xff\xff\xff\xff\xff\xff\x7f\xff\xff\xff\xff\xff\xff\xff\x7f\x4d\xc1\xa2\xe0\xff\xff\xff\xff\xff\xff\xff\xff"},
	}
}

func TestKnownMasters(t *testing.T) {
	for _, k := range known() {
		if b, e := Encode(k.m); string(b) != k.b || e != api.OK {
			t.Errorf("Encode(%v) is % x, error %d; want % x", k.m, b, e, k.b)
		}
		decoded(t, "known bytes", []byte(k.b), k.m, api.OK)
	}
}

func TestEncodeGoesByTheWords(t *testing.T) {
	for _, m := range goods() {
		if b, e := Encode(m); !bytes.Equal(b, right(m)) || len(b) != 45 || e != api.OK {
			t.Errorf("Encode(%v) is % x, error %d; want % x", m, b, e, right(m))
		}
	}
}

func TestEncodeOfWhatMayNotBe(t *testing.T) {
	for _, m := range bads() {
		if b, e := Encode(m); len(b) != 0 || e != api.ErrArg {
			t.Errorf("Encode(%v) is % x, error %d; want ErrArg", m, b, e)
		}
	}
}

func TestEncodeTellsNewBytes(t *testing.T) {
	m := made(9, 1, 2, 3, 4)
	a, _ := Encode(m)
	for i := range a {
		a[i] = 0xee
	}
	if b, e := Encode(m); !bytes.Equal(b, right(m)) || e != api.OK {
		t.Errorf("Encode is % x, error %d, once what it told was changed", b, e)
	}
}

func TestDecodeOfTooFewBytes(t *testing.T) {
	refused(t, "nil", nil, api.ErrShort)
	for n := range 45 {
		refused(t, "a beginning", right(made(7, 1, 2, 3, 4))[:n], api.ErrShort)
		refused(t, "noughts", make([]byte, n), api.ErrShort)
		refused(t, "spoilt bytes", bytes.Repeat([]byte{0xfe, 1}, 23)[:n], api.ErrShort)
	}
}

func TestDecodeOfTheFirstBytesAlone(t *testing.T) {
	m := made(7, 1, 2, 3, 4)
	for _, n := range []int{1, 2, 8, 19, 45, 467, 4051} {
		for _, x := range []byte{0, 1, 0xff} {
			decoded(t, "a block", append(right(m), bytes.Repeat([]byte{x}, n)...), m, api.OK)
		}
	}
	decoded(t, "two of them", append(right(m), right(made(8, 0, 1, 1, 1))...), m, api.OK)
	refused(t, "a byte ahead", append([]byte{7}, right(m)...), api.ErrForm)
}

func TestDecodeOfUnlikeNumbers(t *testing.T) {
	for _, m := range goods() {
		for bit := range 64 {
			other := m.Gen ^ 1<<bit
			refused(t, "the number behind differs", with(m, sum(told(m)), other), api.ErrForm)
			changed := m
			changed.Gen = other
			refused(t, "the number ahead differs", with(changed, sum(told(changed)), m.Gen), api.ErrForm)
			refused(t, "the number ahead differs, and the sum", with(changed, sum(told(m)), m.Gen), api.ErrForm)
		}
	}
	bad := made(1, 2, -1, -2, -3)
	refused(t, "all is wrong", with(bad, ^sum(told(bad)), 2), api.ErrForm)
}

func TestDecodeOfAnotherSum(t *testing.T) {
	for _, m := range goods() {
		for bit := 8 * 8; bit < 37*8; bit++ {
			b := right(m)
			b[bit/8] ^= 1 << (bit % 8)
			refused(t, "one bit differs", b, api.ErrSum)
		}
		for _, gen := range []uint64{0, m.Gen + 1, m.Gen ^ 1<<63} {
			changed := m
			changed.Gen = gen
			refused(t, "both numbers are others", with(changed, sum(told(m)), gen), api.ErrSum)
		}
		refused(t, "the sum, the other way round", with(m, ^sum(told(m)), m.Gen), api.ErrSum)
	}
	for _, m := range bads() {
		refused(t, "a master that may not be, and another sum", with(m, sum(told(m))+1, m.Gen), api.ErrSum)
	}
	refused(t, "noughts", make([]byte, 45), api.ErrSum)
	refused(t, "bits 1", bytes.Repeat([]byte{0xff}, 45), api.ErrSum)
}

func TestDecodeOfWhatMayNotBe(t *testing.T) {
	for _, m := range bads() {
		refused(t, "the bytes are right", right(m), api.ErrForm)
	}
}

func TestDecodeChangesNothing(t *testing.T) {
	b := append(right(made(7, 1, 2, 3, 4)), 9, 9, 9)
	before := slices.Clone(b)
	Decode(b)
	Decode(b[:44])
	Pick(b, b)
	if !bytes.Equal(b, before) {
		t.Errorf("% x was changed to % x", before, b)
	}
}

// P16.3

// wrongs are bytes that Decode does not take, of each error.
func wrongs() [][]byte {
	m := made(last, 1, 2, 3, 4)
	bad := made(last, 2, 2, 3, 4)
	return [][]byte{
		nil,
		{},
		right(m)[:44],
		make([]byte, 45),
		make([]byte, 256),
		with(m, sum(told(m)), m.Gen-1),
		with(m, sum(told(m))^1, m.Gen),
		right(bad),
	}
}

func TestPickOfOneSlot(t *testing.T) {
	for _, m := range goods() {
		for _, w := range wrongs() {
			picked(t, "the other one is wrong", right(m), w, m, 0, api.OK)
			picked(t, "the first one is wrong", w, right(m), m, 1, api.OK)
		}
	}
	three := made(3, 0, 5, 6, 7)
	picked(t, "an empty slot", append(right(three), make([]byte, 211)...), make([]byte, 256), three, 0, api.OK)
}

func TestPickOfTwoSlots(t *testing.T) {
	for _, g := range gens() {
		for _, h := range gens() {
			a, b := made(g, 0, 1, 2, 3), made(h, 1, 0, 9, 8)
			want, slot := a, 0
			if h > g {
				want, slot = b, 1
			}
			picked(t, "two that may be", right(a), right(b), want, slot, api.OK)
		}
	}
}

func TestPickGoesByTheNumberAlone(t *testing.T) {
	older, newer := made(8, 1, greatest, greatest, greatest), made(9, 0, 0, 0, 0)
	picked(t, "the newer one behind", right(older), right(newer), newer, 1, api.OK)
	picked(t, "the newer one ahead", right(newer), right(older), newer, 0, api.OK)
	same := made(9, 1, greatest, greatest, greatest)
	picked(t, "the same number", right(newer), right(same), newer, 0, api.OK)
	picked(t, "the same number, turned", right(same), right(newer), same, 0, api.OK)
	picked(t, "the same bytes", right(same), right(same), same, 0, api.OK)
}

func TestPickOfNone(t *testing.T) {
	for _, a := range wrongs() {
		for _, b := range wrongs() {
			picked(t, "both are wrong", a, b, api.Master{}, 0, api.ErrCorrupt)
		}
	}
}

// P16.4

func TestWhatIsEncodedIsDecoded(t *testing.T) {
	for _, m := range goods() {
		b, e := Encode(m)
		if e != api.OK {
			t.Fatalf("Encode(%v): error %d", m, e)
		}
		decoded(t, "what was encoded", b, m, api.OK)
	}
}

func TestWhatIsDecodedIsEncoded(t *testing.T) {
	r := rand.New(rand.NewSource(16))
	for range 20000 {
		m := made(r.Uint64()>>r.Intn(64), uint8(r.Intn(3)), r.Int63()>>r.Intn(63)-1, r.Int63()>>r.Intn(63)-1, r.Int63()>>r.Intn(63)-1)
		b := right(m)
		if r.Intn(4) == 0 {
			b[r.Intn(45)] ^= byte(r.Intn(256))
		}
		m, e := Decode(b)
		if e != api.OK {
			continue
		}
		if c, e := Encode(m); !bytes.Equal(c, b) || e != api.OK {
			t.Errorf("% x is decoded to %v, which is encoded to % x, error %d", b, m, c, e)
		}
	}
}

// tornAnywhere asks that of a master that was written over another one, up to each place, just one of both is decoded, or none; and that Pick takes nothing else behind it.
func tornAnywhere(t *testing.T, old, fresh api.Master) {
	t.Helper()
	a, b := right(old), right(fresh)
	rest := bytes.Repeat([]byte{0xa5}, 19)
	for n := 0; n <= 45; n++ {
		block := slices.Concat(b[:n], a[n:], rest)
		m, e := Decode(block)
		switch {
		case bytes.Equal(block[:45], a):
			decoded(t, "nothing of the new one is seen", block, old, api.OK)
		case bytes.Equal(block[:45], b):
			decoded(t, "the new one is whole", block, fresh, api.OK)
		case e == api.OK || m != api.Master{}:
			t.Errorf("%d bytes of %v over %v: %v, error %d", n, fresh, old, m, e)
		}
		other := made(old.Gen, 1-old.Area, 0, 0, 0)
		if m, _, e := Pick(right(other), block); m != other && m != fresh || e != api.OK {
			t.Errorf("%d bytes of %v over %v: %v is picked, error %d", n, fresh, old, m, e)
		}
	}
}

func TestTornMasters(t *testing.T) {
	for i, g := range gens() {
		for j, h := range gens() {
			if g != h {
				tornAnywhere(t, made(g, uint8(i%2), int64(i), int64(i+j), int64(j)), made(h, uint8(j%2), int64(i), int64(i+2*j), 3))
			}
		}
	}
}

func TestTornMastersThatDifferByTheirNumbersAlone(t *testing.T) {
	for _, g := range gens() {
		for _, h := range gens() {
			if g != h {
				tornAnywhere(t, made(g, 1, 5, 6, 7), made(h, 1, 5, 6, 7))
			}
		}
	}
}

func TestTornMastersOfNoughtsAndOnes(t *testing.T) {
	few, many := made(1, 0, 0, 0, 0), made(last, 1, greatest, greatest, greatest)
	tornAnywhere(t, few, many)
	tornAnywhere(t, many, few)
	for _, k := range known() {
		for _, l := range known() {
			if k.m.Gen != l.m.Gen {
				tornAnywhere(t, k.m, l.m)
			}
		}
	}
}
