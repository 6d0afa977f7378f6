package vol

import (
	"math"
	"slices"
	"strings"
	"testing"

	"pledge/api"
)

// below are numbers below 0, among them some that would be right ones in fewer bits.
func below() []int {
	return []int{math.MinInt, math.MinInt + 1, math.MinInt + 2, -1 << 32, -1<<32 + 1, -65536, -65535, -256, -4, -2, -1}
}

// far are numbers beyond all limits, among them some that would be right ones in fewer bits.
func far() []int {
	return []int{65536, 65537, 1 << 32, 1<<32 + 1, 1<<32 + 2, math.MaxInt - 1, math.MaxInt}
}

// blank are so many blocks of so many bytes 0.
func blank(blocks, size int) []string {
	return slices.Repeat([]string{strings.Repeat("\x00", size)}, blocks)
}

// of is a volume of blocks that are as long as each other.
func of(t *testing.T, blocks ...string) *Vol {
	t.Helper()
	v := New(len(blocks), len(blocks[0]))
	for i, b := range blocks {
		told(t, "Put", v.Put(i, []byte(b)), api.OK)
	}
	return v
}

// after is what the first n bytes of was come to where b is put, told byte by byte.
func after(was, b string, n int) string {
	is := []byte(was)
	for i := range is {
		switch {
		case i >= n:
			is[i] = was[i]
		case i < len(b):
			is[i] = b[i]
		default:
			is[i] = 0
		}
	}
	return string(is)
}

// told asks for an error.
func told(t *testing.T, what string, e, want api.Errno) {
	t.Helper()
	if e != want {
		t.Errorf("%s: error %d; want %d", what, e, want)
	}
}

// has asks that a volume has just these blocks of so many bytes, and no other.
func has(t *testing.T, what string, v *Vol, size int, want []string) {
	t.Helper()
	if v.Blocks() != len(want) || v.Size() != size {
		t.Fatalf("%s: %d blocks of %d bytes; want %d of %d", what, v.Blocks(), v.Size(), len(want), size)
	}
	for i, b := range want {
		if is := v.Block(i); string(is) != b {
			t.Errorf("%s: block %d is %q; want %q", what, i, is, b)
		}
	}
	lacks(t, what, v, len(want))
}

// lacks asks that there is no block outside of the first blocks ones.
func lacks(t *testing.T, what string, v *Vol, blocks int) {
	t.Helper()
	for _, i := range slices.Concat(below(), far(), []int{blocks, blocks + 1, 1023 + blocks, 1024 + blocks}) {
		if is := v.Block(i); is != nil {
			t.Errorf("%s: block %d is %q", what, i, is)
		}
	}
}

// P7.1

func TestNewIsBlank(t *testing.T) {
	for _, n := range []int{0, 1, 2, 3, 7, 255, 256, 257, 1023, 1024} {
		for _, size := range []int{0, 1, 2, 63, 64, 255, 256, 257} {
			has(t, "a new volume", New(n, size), size, blank(n, size))
		}
	}
	for _, size := range []int{4095, 4096} {
		has(t, "a new volume of great blocks", New(3, size), size, blank(3, size))
	}
	has(t, "the greatest of all", New(1024, 4096), 4096, blank(1024, 4096))
}

func TestNewOfFewerThanNone(t *testing.T) {
	for _, n := range below() {
		has(t, "blocks below 0", New(n, 5), 5, nil)
		has(t, "bytes below 0", New(5, n), 0, blank(5, 0))
		has(t, "both below 0", New(n, n), 0, nil)
		has(t, "blocks below 0, bytes beyond", New(n, math.MaxInt), 4096, nil)
		has(t, "blocks beyond, bytes below 0", New(math.MaxInt, n), 0, blank(1024, 0))
	}
}

func TestNewBeyondTheLimits(t *testing.T) {
	for _, n := range append(far(), 1025, 1026, 2048) {
		has(t, "blocks beyond", New(n, 5), 5, blank(1024, 5))
		has(t, "blocks beyond, of no bytes", New(n, 0), 0, blank(1024, 0))
	}
	for _, n := range append(far(), 4097, 4098, 8192) {
		has(t, "bytes beyond", New(5, n), 4096, blank(5, 4096))
		has(t, "bytes beyond, of no blocks", New(0, n), 4096, nil)
	}
	has(t, "both beyond", New(1025, 4097), 4096, blank(1024, 4096))
	// The one number's limit is not the other's.
	has(t, "bytes beyond the limit of blocks", New(2, 1025), 1025, blank(2, 1025))
}

func TestBlocksAndSizeStay(t *testing.T) {
	v := New(3, 4)
	v.Put(1, []byte("abcd"))
	v.Put(2, nil)
	v.Tear(0, []byte("ab"), 1)
	v.Put(3, []byte("abcd"))
	v.Put(0, []byte("abcde"))
	if v.Blocks() != 3 || v.Size() != 4 {
		t.Errorf("%d blocks of %d bytes", v.Blocks(), v.Size())
	}
}

func TestVolumesAreApart(t *testing.T) {
	a, b := New(2, 3), New(2, 3)
	a.Put(0, []byte("abc"))
	has(t, "the other one", b, 3, blank(2, 3))
	b.Put(1, []byte("xyz"))
	has(t, "the first one", a, 3, []string{"abc", "\x00\x00\x00"})
	has(t, "a third one", New(2, 3), 3, blank(2, 3))
}

// P7.2: Block

func TestBlockIsNewEachTime(t *testing.T) {
	v := of(t, "abcd", "efgh", "ijkl")
	b, again := v.Block(1), v.Block(1)
	b[0], b[3] = 'X', 'Y'
	_ = append(b[:2], "!!!!!!"...)
	_ = append(b, "!!!!!!"...)
	if string(again) != "efgh" {
		t.Errorf("the other answer has changed: %q", again)
	}
	has(t, "behind a change of an answer", v, 4, []string{"abcd", "efgh", "ijkl"})
	v.Put(1, []byte("wxyz"))
	v.Tear(1, []byte("12"), 1)
	if string(again) != "efgh" {
		t.Errorf("an answer has changed with the volume: %q", again)
	}
}

func TestBlockOfNoBytes(t *testing.T) {
	v := New(2, 0)
	for i := range 2 {
		if b := v.Block(i); len(b) != 0 {
			t.Errorf("block %d is %q", i, b)
		}
	}
}

// P7.2: Put

func TestPut(t *testing.T) {
	for _, size := range []int{0, 1, 2, 3, 5} {
		for i := range 3 {
			for n := 0; n <= size; n++ {
				want := slices.Repeat([]string{"#####"[:size]}, 3)
				v := of(t, want...)
				b := "abcde"[:n]
				want[i] = b + "\x00\x00\x00\x00\x00"[:size-n]
				told(t, "Put", v.Put(i, []byte(b)), api.OK)
				has(t, "behind Put", v, size, want)
				told(t, "Put once more", v.Put(i, []byte(b)), api.OK)
				has(t, "behind Put once more", v, size, want)
			}
		}
	}
}

func TestPutOfNil(t *testing.T) {
	v := of(t, "abc", "def")
	told(t, "Put", v.Put(1, nil), api.OK)
	has(t, "behind Put of nil", v, 3, []string{"abc", "\x00\x00\x00"})
}

func TestPutOfEachByte(t *testing.T) {
	var b []byte
	for i := range 256 {
		b = append(b, byte(255-i))
	}
	v := New(2, 256)
	told(t, "Put", v.Put(0, b), api.OK)
	has(t, "behind Put", v, 256, []string{string(b), blank(1, 256)[0]})
}

func TestPutAtTheLimits(t *testing.T) {
	v := New(1024, 4096)
	want := blank(1024, 4096)
	for _, i := range []int{0, 1, 1022, 1023} {
		want[i] = strings.Repeat(string(rune('a'+i%26)), 4095) + "!"
		told(t, "Put", v.Put(i, []byte(want[i])), api.OK)
	}
	has(t, "the greatest volume", v, 4096, want)
	told(t, "Put behind the last block", v.Put(1024, []byte("a")), api.ErrArg)
	told(t, "Put of a byte too many", v.Put(1023, make([]byte, 4097)), api.ErrLong)
	has(t, "the greatest volume, behind errors", v, 4096, want)
}

func TestPutKeepsNothingOfWhatIsHandedIn(t *testing.T) {
	room := []byte("abcdefgh")
	b := room[2:5]
	v := New(2, 4)
	v.Put(0, b)
	v.Tear(1, b, 2)
	if string(room) != "abcdefgh" {
		t.Errorf("what was handed in has changed: %q", room)
	}
	clear(room)
	has(t, "behind a change of what was handed in", v, 4, []string{"cde\x00", "cd\x00\x00"})
	v.Put(0, nil)
	b[0] = '1'
	v.Put(1, b[:1])
	if string(room) != "\x00\x001\x00\x00\x00\x00\x00" {
		t.Errorf("what was handed in has changed with the volume: %q", room)
	}
}

func TestPutOfABlocksOwnBytes(t *testing.T) {
	v := of(t, "abcd", "efgh")
	v.Put(1, v.Block(0))
	has(t, "a block put into another one", v, 4, []string{"abcd", "abcd"})
	v.Put(0, v.Block(0)[1:])
	has(t, "a block put into itself", v, 4, []string{"bcd\x00", "abcd"})
}

// P7.2: Tear

func TestTear(t *testing.T) {
	for _, size := range []int{0, 1, 2, 3, 5} {
		for i := range 3 {
			for l := 0; l <= size; l++ {
				for n := -2; n <= size+2; n++ {
					want := []string{"#####"[:size], "12345"[:size], "+++++"[:size]}
					v := of(t, want...)
					b := "abcde"[:l]
					want[i] = after(want[i], b, n)
					told(t, "Tear", v.Tear(i, []byte(b), n), api.OK)
					has(t, "behind Tear", v, size, want)
				}
			}
		}
	}
}

func TestTearOfEdges(t *testing.T) {
	cases := []struct {
		was, b string
		n      int
		want   string
	}{
		{"abcd", "xy", 0, "abcd"}, {"abcd", "xy", 1, "xbcd"}, {"abcd", "xy", 2, "xycd"}, {"abcd", "xy", 3, "xy\x00d"}, {"abcd", "xy", 4, "xy\x00\x00"}, {"abcd", "xy", 5, "xy\x00\x00"},
		{"abcd", "wxyz", 3, "wxyd"}, {"abcd", "wxyz", 4, "wxyz"}, {"abcd", "wxyz", 5, "wxyz"},
		{"abcd", "", 0, "abcd"}, {"abcd", "", 1, "\x00bcd"}, {"abcd", "", 4, "\x00\x00\x00\x00"},
		{"abcd", "xy", math.MinInt, "abcd"}, {"abcd", "xy", -1, "abcd"}, {"abcd", "xy", -4, "abcd"}, {"abcd", "xy", -1<<32 + 2, "abcd"},
		{"abcd", "xy", math.MaxInt, "xy\x00\x00"}, {"abcd", "xy", 1 << 32, "xy\x00\x00"}, {"abcd", "xy", 256, "xy\x00\x00"},
		{"\x00\x00\x00\x00", "xy", 1, "x\x00\x00\x00"},
	}
	for _, c := range cases {
		v := of(t, "0123", c.was, "4567")
		told(t, "Tear", v.Tear(1, []byte(c.b), c.n), api.OK)
		has(t, "behind Tear", v, 4, []string{"0123", c.want, "4567"})
		if is := after(c.was, c.b, c.n); is != c.want {
			t.Errorf("the test's own reckoning of %v is %q", c, is)
		}
	}
}

func TestTearOfNil(t *testing.T) {
	v := of(t, "abcd")
	told(t, "Tear", v.Tear(0, nil, 0), api.OK)
	has(t, "nothing of nil", v, 4, []string{"abcd"})
	told(t, "Tear", v.Tear(0, nil, 2), api.OK)
	has(t, "two bytes of nil", v, 4, []string{"\x00\x00cd"})
}

func TestTearOfTears(t *testing.T) {
	v := of(t, "abcdef")
	v.Tear(0, []byte("123456"), 4)
	has(t, "torn once", v, 6, []string{"1234ef"})
	v.Tear(0, []byte("xy"), 3)
	has(t, "torn twice", v, 6, []string{"xy\x004ef"})
	v.Tear(0, []byte("+++++"), 1)
	has(t, "torn three times", v, 6, []string{"+y\x004ef"})
}

func TestTearOfAllIsPut(t *testing.T) {
	for l := range 5 {
		for _, n := range []int{4, 5, math.MaxInt} {
			a, b := of(t, "abcd", "efgh"), of(t, "abcd", "efgh")
			a.Put(1, []byte("wxyz")[:l])
			b.Tear(1, []byte("wxyz")[:l], n)
			has(t, "behind Tear of all", b, 4, []string{"abcd", string(a.Block(1))})
		}
	}
}

// P7.2: the errors

func TestNoSuchBlock(t *testing.T) {
	long, right := []byte("abcde"), []byte("abcd")
	v := of(t, "0123", "4567", "89+-")
	for _, i := range slices.Concat(below(), far(), []int{3, 4, 5, 255, 256, 1023, 1024, 4096}) {
		for _, b := range [][]byte{nil, right, long} {
			// That there is no such block is told ahead of that b is too long.
			told(t, "Put", v.Put(i, b), api.ErrArg)
			for _, n := range []int{math.MinInt, -1, 0, 1, 4, math.MaxInt} {
				told(t, "Tear", v.Tear(i, b, n), api.ErrArg)
			}
		}
	}
	has(t, "behind errors", v, 4, []string{"0123", "4567", "89+-"})
}

func TestTooLong(t *testing.T) {
	v := of(t, "0123", "4567", "89+-")
	for i := range 3 {
		for _, l := range []int{5, 6, 8, 12, 13, 256, 260, 4096, 65536, 65540} {
			b := slices.Repeat([]byte("a"), l)
			told(t, "Put", v.Put(i, b), api.ErrLong)
			// Also where no byte of it would come to stand there.
			for _, n := range []int{math.MinInt, -1, 0, 1, 4, 5, math.MaxInt} {
				told(t, "Tear", v.Tear(i, b, n), api.ErrLong)
			}
		}
	}
	has(t, "behind errors", v, 4, []string{"0123", "4567", "89+-"})
}

func TestErrorsOfNoBytes(t *testing.T) {
	v := New(2, 0)
	told(t, "Put of nothing", v.Put(1, nil), api.OK)
	told(t, "Tear of nothing", v.Tear(1, []byte{}, 5), api.OK)
	told(t, "Put of a byte", v.Put(1, []byte("a")), api.ErrLong)
	told(t, "Tear of a byte", v.Tear(1, []byte("a"), 0), api.ErrLong)
	told(t, "Put where no block is", v.Put(2, []byte("a")), api.ErrArg)
	has(t, "blocks of no bytes", v, 0, blank(2, 0))
}

func TestErrorsOfNoBlocks(t *testing.T) {
	v := New(0, 4)
	for _, i := range []int{-1, 0, 1} {
		told(t, "Put", v.Put(i, nil), api.ErrArg)
		told(t, "Tear", v.Tear(i, []byte("abcde"), 1), api.ErrArg)
	}
	has(t, "no blocks", v, 4, nil)
}

// P7.2: Copy

func TestCopyHasTheSame(t *testing.T) {
	for _, n := range [][2]int{{0, 0}, {0, 4}, {3, 0}, {3, 4}, {1024, 4096}} {
		v := New(n[0], n[1])
		has(t, "a copy of a new one", v.Copy(), n[1], blank(n[0], n[1]))
	}
	v := of(t, "abcd", "efgh", "ijkl")
	v.Tear(1, []byte("xy"), 3)
	c := v.Copy()
	if c == v {
		t.Error("a copy is the volume itself")
	}
	want := []string{"abcd", "xy\x00h", "ijkl"}
	has(t, "a copy", c, 4, want)
	has(t, "a copy of a copy", c.Copy(), 4, want)
	has(t, "what was copied", v, 4, want)
}

func TestCopyGoesItsOwnWay(t *testing.T) {
	full := []string{"abcd", "efgh", "ijkl"}
	v := of(t, full...)
	c := v.Copy()
	d := c.Copy()
	v.Put(0, []byte("1234"))
	v.Tear(1, []byte("5678"), 2)
	has(t, "the copy, behind changes of the volume", c, 4, full)
	c.Put(2, []byte("+++"))
	c.Tear(0, nil, 1)
	has(t, "the volume, behind changes of the copy", v, 4, []string{"1234", "56gh", "ijkl"})
	has(t, "the copy", c, 4, []string{"\x00bcd", "efgh", "+++\x00"})
	has(t, "the copy's copy", d, 4, full)
}

// P7.3

func TestPutBehindTears(t *testing.T) {
	for _, was := range []string{"abcdef", "\x00\x00\x00\x00\x00\x00"} {
		for l := 0; l <= 6; l++ {
			for n := -1; n <= 7; n++ {
				b := []byte("UVWXYZ")[:l]
				whole := of(t, "......", was, "------")
				told(t, "Put alone", whole.Put(1, b), api.OK)
				want := []string{"......", after(was, string(b), 6), "------"}
				has(t, "behind Put alone", whole, 6, want)
				// Torn by what is put then, and by anything else.
				for _, torn := range []string{string(b), "", "1", "123", "123456"} {
					v := of(t, "......", was, "------")
					told(t, "Tear", v.Tear(1, []byte(torn), n), api.OK)
					told(t, "Put behind Tear", v.Put(1, b), api.OK)
					has(t, "behind Tear and Put", v, 6, want)
				}
			}
		}
	}
}

// nil, and volumes that no call made

func TestNil(t *testing.T) {
	var v *Vol
	has(t, "nil", v, 0, nil)
	for _, i := range []int{math.MinInt, -1, 0, 1, math.MaxInt} {
		for _, b := range [][]byte{nil, {}, []byte("a")} {
			told(t, "Put of nil", v.Put(i, b), api.ErrArg)
			told(t, "Tear of nil", v.Tear(i, b, 0), api.ErrArg)
			told(t, "Tear of nil", v.Tear(i, b, math.MaxInt), api.ErrArg)
		}
	}
	c := v.Copy()
	if c == nil {
		t.Fatal("Copy of nil is nil")
	}
	has(t, "a copy of nil", c, 0, nil)
	told(t, "Put of a copy of nil", c.Put(0, nil), api.ErrArg)
}

func TestAVolumeThatNoCallMade(t *testing.T) {
	var v Vol
	has(t, "no call's volume", &v, 0, nil)
	told(t, "Put", v.Put(0, nil), api.ErrArg)
	told(t, "Tear", v.Tear(0, []byte("a"), 1), api.ErrArg)
	has(t, "a copy of no call's volume", v.Copy(), 0, nil)
}

// P7.1 to P7.3 as a whole

func TestManyCalls(t *testing.T) {
	// The numbers hang on seed alone; texts of its own tell what each volume must have.
	for seed := range uint32(20) {
		r := seed*2654435761 + 1
		next := func(n int) int {
			r = r*1664525 + 1013904223
			return int(r>>16) % n
		}
		blocks, size := 1+int(seed)%5, 1+int(seed)%7
		v, want := New(blocks, size), blank(blocks, size)
		for call := range 300 {
			i, n := next(blocks+2)-1, next(size+3)-1
			b := slices.Repeat([]byte{byte(1 + call%255)}, next(size+2))
			e := api.OK
			switch {
			case i < 0 || i >= blocks:
				e = api.ErrArg
			case len(b) > size:
				e = api.ErrLong
			}
			switch next(4) {
			case 0:
				told(t, "Put", v.Put(i, b), e)
				n = size
			case 1, 2:
				told(t, "Tear", v.Tear(i, b, n), e)
			case 3:
				old, had := v, slices.Clone(want)
				v = v.Copy()
				told(t, "Tear", v.Tear(i, b, n), e)
				has(t, "what was copied", old, size, had)
			}
			if e == api.OK {
				want[i] = after(want[i], string(b), n)
			}
			has(t, "in between", v, size, want)
		}
	}
}

func TestExample(t *testing.T) {
	v := of(t, "abcd")
	told(t, "Tear", v.Tear(0, []byte("xy"), 3), api.OK)
	has(t, "the example", v, 4, []string{"xy\x00d"})
}
