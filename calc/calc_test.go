package calc

import (
	"math"
	"math/big"
	"slices"
	"testing"
)

const (
	least    = math.MinInt64
	greatest = math.MaxInt64
)

// edges are numbers next to where 0, signs, halves and ends are.
func edges() []int64 {
	l := []int64{0}
	for _, bit := range []uint{0, 1, 2, 15, 30, 31, 32, 33, 61, 62} {
		x := int64(1) << bit
		l = append(l, x-1, x, x+1, -x-1, -x, -x+1)
	}
	l = append(l, least, least+1, least+2, greatest, greatest-1, greatest-2)
	l = append(l, 3037000499, 3037000500, -3037000499, -3037000500) // about the root of 2^63
	l = append(l, 7, 49, 73, 127, 337, 92737, 649657)               // of which 2^63 less 1 is made
	l = append(l, greatest/7, greatest/49, least/7, least/3)
	slices.Sort(l)
	return slices.Compact(l)
}

// want is a whole number as the calls tell it.
func want(x *big.Int) (int64, bool) {
	if !x.IsInt64() {
		return 0, false
	}
	return x.Int64(), true
}

func total(l []int64) *big.Int {
	s := new(big.Int)
	for _, x := range l {
		s.Add(s, big.NewInt(x))
	}
	return s
}

// turns hands on each row of the parts of l.
func turns(l []int64, see func([]int64)) {
	var place func(int)
	place = func(i int) {
		if i == len(l) {
			see(l)
			return
		}
		for j := i; j < len(l); j++ {
			l[i], l[j] = l[j], l[i]
			place(i + 1)
			l[i], l[j] = l[j], l[i]
		}
	}
	place(0)
}

// P1.1

func TestTwoNumbersAreWhole(t *testing.T) {
	calls := []struct {
		name  string
		call  func(a, b int64) (int64, bool)
		whole func(z, a, b *big.Int) *big.Int
	}{
		{"Add", Add, (*big.Int).Add},
		{"Sub", Sub, (*big.Int).Sub},
		{"Mul", Mul, (*big.Int).Mul},
	}
	for _, c := range calls {
		for _, a := range edges() {
			for _, b := range edges() {
				x, ok := c.call(a, b)
				y, is := want(c.whole(new(big.Int), big.NewInt(a), big.NewInt(b)))
				if x != y || ok != is {
					t.Errorf("%s(%d, %d) is %d, %t; want %d, %t", c.name, a, b, x, ok, y, is)
				}
			}
		}
	}
}

func TestTwoNumbersAtTheEnds(t *testing.T) {
	cases := []struct {
		name string
		call func(a, b int64) (int64, bool)
		a, b int64
		x    int64
		ok   bool
	}{
		{"Add", Add, 2, 3, 5, true},
		{"Add", Add, greatest, 0, greatest, true},
		{"Add", Add, greatest - 1, 1, greatest, true},
		{"Add", Add, greatest, 1, 0, false},
		{"Add", Add, least, -1, 0, false},
		{"Add", Add, least, least, 0, false},
		{"Add", Add, least, greatest, -1, true},
		{"Sub", Sub, 2, 3, -1, true},
		{"Sub", Sub, least, 1, 0, false},
		{"Sub", Sub, greatest, -1, 0, false},
		{"Sub", Sub, 0, least, 0, false},
		{"Sub", Sub, -1, least, greatest, true},
		{"Sub", Sub, least, least, 0, true},
		{"Mul", Mul, -4, 6, -24, true},
		{"Mul", Mul, -4, -6, 24, true},
		{"Mul", Mul, 0, least, 0, true},
		{"Mul", Mul, least, 0, 0, true},
		{"Mul", Mul, least, 1, least, true},
		{"Mul", Mul, least, -1, 0, false},
		{"Mul", Mul, -1, least, 0, false},
		{"Mul", Mul, 1 << 31, 1 << 32, 0, false},
		{"Mul", Mul, -1 << 31, 1 << 32, least, true},
		{"Mul", Mul, 1 << 32, 1 << 32, 0, false},
		{"Mul", Mul, greatest, greatest, 0, false},
		{"Mul", Mul, least, least, 0, false},
	}
	for _, c := range cases {
		if x, ok := c.call(c.a, c.b); x != c.x || ok != c.ok {
			t.Errorf("%s(%d, %d) is %d, %t; want %d, %t", c.name, c.a, c.b, x, ok, c.x, c.ok)
		}
	}
}

func TestNeg(t *testing.T) {
	for _, a := range edges() {
		x, ok := Neg(a)
		y, is := want(new(big.Int).Neg(big.NewInt(a)))
		if x != y || ok != is {
			t.Errorf("Neg(%d) is %d, %t; want %d, %t", a, x, ok, y, is)
		}
	}
	if x, ok := Neg(least); x != 0 || ok {
		t.Errorf("Neg of the least number is %d, %t", x, ok)
	}
	if x, ok := Neg(greatest); x != least+1 || !ok {
		t.Errorf("Neg of the greatest number is %d, %t", x, ok)
	}
}

// P1.2

func TestSum(t *testing.T) {
	cases := []struct {
		l  []int64
		x  int64
		ok bool
	}{
		{nil, 0, true},
		{[]int64{}, 0, true},
		{[]int64{least}, least, true},
		{[]int64{greatest}, greatest, true},
		{[]int64{1, 2, 3, -10}, -4, true},
		{[]int64{1 << 62, 1 << 62, -1}, greatest, true},
		{[]int64{1 << 62, 1 << 62}, 0, false},
		{[]int64{greatest, 1}, 0, false},
		{[]int64{greatest, 1, -1}, greatest, true},
		{[]int64{least, -1}, 0, false},
		{[]int64{least, -1, 1}, least, true},
		{[]int64{least, least, greatest, greatest}, -2, true},
		{[]int64{greatest, greatest, 2}, 0, false},    // 2^64: its lower half is 0
		{[]int64{greatest, greatest, 2, 7}, 0, false}, // its lower half is 7
		{[]int64{least, least}, 0, false},
		{[]int64{least, least, -7}, 0, false},
		{[]int64{least, least, least}, 0, false}, // its lower half is the least number
		{[]int64{greatest, greatest, greatest, 3, least, least, -9}, greatest - 8, true},
	}
	for _, c := range cases {
		if x, ok := Sum(c.l...); x != c.x || ok != c.ok {
			t.Errorf("Sum(%d) is %d, %t; want %d, %t", c.l, x, ok, c.x, c.ok)
		}
	}
	if x, ok := Sum(); x != 0 || !ok {
		t.Errorf("Sum of no numbers is %d, %t", x, ok)
	}
}

func TestSumOfThreeIsWhole(t *testing.T) {
	for _, a := range edges() {
		for _, b := range edges() {
			for _, c := range edges() {
				x, ok := Sum(a, b, c)
				y, is := want(total([]int64{a, b, c}))
				if x != y || ok != is {
					t.Fatalf("Sum(%d, %d, %d) is %d, %t; want %d, %t", a, b, c, x, ok, y, is)
				}
			}
		}
	}
}

func TestSumOfVeryMany(t *testing.T) {
	const n = 1 << 16
	ups := slices.Repeat([]int64{greatest}, n)
	downs := slices.Repeat([]int64{least}, n)
	if x, ok := Sum(ups...); x != 0 || ok {
		t.Errorf("all up: %d, %t", x, ok)
	}
	if x, ok := Sum(downs...); x != 0 || ok {
		t.Errorf("all down: %d, %t", x, ok)
	}
	for _, l := range [][]int64{slices.Concat(ups, downs), slices.Concat(downs, ups)} {
		if x, ok := Sum(l...); x != -n || !ok {
			t.Errorf("up and down: %d, %t; want %d", x, ok, -n)
		}
	}
}

func TestSumLeavesItsListAlone(t *testing.T) {
	l := []int64{greatest, 5, least, -5}
	Sum(l...)
	if !slices.Equal(l, []int64{greatest, 5, least, -5}) {
		t.Errorf("the list has become %d", l)
	}
}

// P1.3

func TestDist(t *testing.T) {
	for _, lo := range edges() {
		for _, hi := range edges() {
			d := new(big.Int).Sub(big.NewInt(hi), big.NewInt(lo))
			if d.Sign() < 0 {
				d.SetInt64(0)
			}
			if x := Dist(lo, hi); !d.IsUint64() || x != d.Uint64() {
				t.Errorf("Dist(%d, %d) is %d; want %d", lo, hi, x, d)
			}
		}
	}
	if x := Dist(least, greatest); x != math.MaxUint64 {
		t.Errorf("from end to end: %d", x)
	}
	if x := Dist(greatest, least); x != 0 {
		t.Errorf("from end to end, backwards: %d", x)
	}
	if Dist(-3, 4) != 7 || Dist(4, 4) != 0 || Dist(3, 2) != 0 {
		t.Error("Dist of small numbers")
	}
}

func TestClip(t *testing.T) {
	cases := []struct{ x, lo, hi, want int64 }{
		{5, -3, 9, 5},
		{-3, -3, 9, -3},
		{9, -3, 9, 9},
		{-4, -3, 9, -3},
		{10, -3, 9, 9},
		{least, least, greatest, least},
		{greatest, least, greatest, greatest},
		{greatest, 0, 0, 0},
		{least, 0, 0, 0},
		// The bounds the wrong way round: lo goes first.
		{5, 7, 3, 7},
		{2, 7, 3, 7},
		{6, 7, 3, 7},
		{7, 7, 3, 3},
		{8, 7, 3, 3},
		{0, greatest, least, greatest},
		{greatest, greatest, least, least},
	}
	for _, c := range cases {
		if x := Clip(c.x, c.lo, c.hi); x != c.want {
			t.Errorf("Clip(%d, %d, %d) is %d; want %d", c.x, c.lo, c.hi, x, c.want)
		}
	}
}

func TestFits(t *testing.T) {
	cases := []struct {
		x    uint64
		want int64
		ok   bool
	}{
		{0, 0, true},
		{1, 1, true},
		{1<<63 - 1, greatest, true},
		{1 << 63, 0, false},
		{1<<63 + 1, 0, false},
		{math.MaxUint64, 0, false},
	}
	for _, c := range cases {
		if x, ok := Fits(c.x); x != c.want || ok != c.ok {
			t.Errorf("Fits(%d) is %d, %t; want %d, %t", c.x, x, ok, c.want, c.ok)
		}
	}
}

// P1.4

func TestWhatWasAddedIsTakenAway(t *testing.T) {
	for _, a := range edges() {
		for _, b := range edges() {
			if x, ok := Add(a, b); ok {
				if y, ok := Sub(x, b); y != a || !ok {
					t.Errorf("%d and %d, less %d, is %d, %t", a, b, b, y, ok)
				}
			}
			if x, ok := Sub(a, b); ok {
				if y, ok := Add(x, b); y != a || !ok {
					t.Errorf("%d less %d, and %d, is %d, %t", a, b, b, y, ok)
				}
			}
			if d, ok := Fits(Dist(a, b)); ok && a <= b {
				if y, ok := Add(a, d); y != b || !ok {
					t.Errorf("%d and what %d is above it is %d, %t", a, b, y, ok)
				}
			}
		}
		if x, ok := Neg(a); ok {
			if y, ok := Neg(x); y != a || !ok {
				t.Errorf("%d with the other sign, twice, is %d, %t", a, y, ok)
			}
			if y, ok := Sum(a, x); y != 0 || !ok {
				t.Errorf("%d and %d is %d, %t", a, x, y, ok)
			}
		}
	}
}

func TestOrderPlaysNoPart(t *testing.T) {
	for _, a := range edges() {
		for _, b := range edges() {
			x, ok := Add(a, b)
			if y, is := Add(b, a); x != y || ok != is {
				t.Errorf("Add(%d, %d) is %d, %t; the other way %d, %t", a, b, x, ok, y, is)
			}
			if y, is := Sum(a, b); x != y || ok != is {
				t.Errorf("Sum(%d, %d) is %d, %t; Add says %d, %t", a, b, y, is, x, ok)
			}
		}
	}
	lists := [][]int64{
		{1, 2, 3, 4, 5},
		{1 << 62, 1 << 62, -1, 0},
		{greatest, greatest, least, least, 2, -1},
		{greatest, greatest, 1, least},
		{least, least, least, greatest, greatest, greatest},
		{least, -1, 1, greatest, greatest},
		{greatest, 1, 1, -1},
		{least, -1, -1, 1},
		{greatest, greatest, 2},
	}
	for _, l := range lists {
		x, ok := want(total(l))
		turns(slices.Clone(l), func(l []int64) {
			if y, is := Sum(l...); y != x || is != ok {
				t.Errorf("Sum(%d) is %d, %t; want %d, %t", l, y, is, x, ok)
			}
		})
	}
}
