package field

import (
	"math"
	"math/big"
	"math/rand"
	"slices"
	"testing"

	"pledge/api"
)

const (
	least    = math.MinInt64
	greatest = math.MaxInt64
)

// made is a field of these numbers, in the order in which they stand.
func made(lo, inf, base, value, sup, hi int64) api.Field {
	return api.Field{Lo: lo, Inf: inf, Base: base, Value: value, Sup: sup, Hi: hi}
}

// call is one of the calls that change a field.
type call struct {
	name string
	make func(api.Field, int64) (api.Field, api.Errno)
	// What d is taken how often: to Base, to Value, to its own side, to its far side.
	base, value, own, far int64
}

func calls() []call {
	return []call{
		{"Grant", Grant, 0, 1, 1, 0},
		{"Undo", Undo, 0, -1, -1, 0},
		{"Settle", Settle, 1, 0, 0, 1},
		{"Back", Back, 0, -1, 0, 0},
		{"Forth", Forth, 0, 1, 0, 0},
		{"Drop", Drop, 0, 0, -1, 0},
	}
}

// ordered is what Good asks for, number by number.
func ordered(f api.Field) bool {
	return slices.IsSorted([]int64{f.Lo, f.Inf, f.Base, f.Sup, f.Hi}) && slices.IsSorted([]int64{f.Lo, f.Inf, f.Value, f.Sup, f.Hi})
}

// with is n and times d, of any size; false: it is no int64.
func with(n, times, d int64) (int64, bool) {
	x := new(big.Int).Mul(big.NewInt(times), big.NewInt(d))
	x.Add(x, big.NewInt(n))
	if !x.IsInt64() {
		return 0, false
	}
	return x.Int64(), true
}

// want is what a call answers, as the chapter's words tell it.
func want(c call, f api.Field, d int64) (api.Field, api.Errno) {
	if !ordered(f) {
		return f, api.ErrState
	}
	if d == 0 || d == least {
		return f, api.ErrArg
	}
	sup, inf := c.own, c.far
	if d < 0 {
		sup, inf = c.far, c.own
	}
	g := f
	fits := true
	for _, x := range []struct {
		to    *int64
		times int64
	}{{&g.Base, c.base}, {&g.Value, c.value}, {&g.Sup, sup}, {&g.Inf, inf}} {
		n, ok := with(*x.to, x.times, d)
		*x.to = n
		fits = fits && ok
	}
	if c.name == "Grant" {
		return granted(f, g, d, fits)
	}
	if !fits || !ordered(g) {
		return f, api.ErrState
	}
	return g, api.OK
}

func granted(f, g api.Field, d int64, fits bool) (api.Field, api.Errno) {
	switch {
	case !fits:
		return f, api.ErrOverflow
	case d > 0 && g.Sup > f.Hi || d < 0 && g.Inf < f.Lo:
		return f, api.ErrBounds
	}
	return g, api.OK
}

// ends are numbers next to 0 and to the ends.
func ends() []int64 {
	return []int64{least, least + 1, least + 2, least / 2, -2, -1, 0, 1, 2, greatest / 2, greatest - 2, greatest - 1, greatest}
}

// small hands on all fields of numbers from lo to hi, in order or not.
func small(lo, hi int64, see func(api.Field)) {
	var n [6]int64
	var place func(int)
	place = func(i int) {
		if i == len(n) {
			see(made(n[0], n[1], n[2], n[3], n[4], n[5]))
			return
		}
		for n[i] = lo; n[i] <= hi; n[i]++ {
			place(i + 1)
		}
	}
	place(0)
}

// wide is a field that is Good, of numbers next to the ends.
func wide(r *rand.Rand) api.Field {
	l := make([]int64, 6)
	for i := range l {
		l[i] = ends()[r.Intn(len(ends()))]
	}
	slices.Sort(l)
	if r.Intn(2) == 0 {
		l[2], l[3] = l[3], l[2]
	}
	return made(l[0], l[1], l[2], l[3], l[4], l[5])
}

func check(t *testing.T, c call, f api.Field, d int64) {
	t.Helper()
	got, e := c.make(f, d)
	if w, we := want(c, f, d); got != w || e != we {
		t.Fatal(c.name, f, d, "answers", got, int(e), "want", w, int(we))
	}
}

// P17.1

func TestNew(t *testing.T) {
	for _, lo := range ends() {
		for _, init := range ends() {
			for _, hi := range ends() {
				d := api.Decl{Key: api.Key{Kind: api.KOwed, Sku: 3, Ware: 2}, Lo: lo, Init: init, Hi: hi}
				var w api.Field
				we := api.ErrBounds
				if slices.IsSorted([]int64{lo, init, hi}) {
					w, we = made(lo, init, init, init, init, hi), api.OK
				}
				f, e := New(d)
				if f != w || e != we {
					t.Fatal(d, f, int(e))
				}
				if !Good(f) {
					t.Fatal(d, f)
				}
			}
		}
	}
}

func TestNewSaysNothingOfTheKey(t *testing.T) {
	for _, k := range []api.Key{{}, {Kind: 255, Sku: 255, Ware: 255}} {
		if f, e := New(api.Decl{Key: k, Lo: 1, Init: 2, Hi: 3}); f != made(1, 2, 2, 2, 2, 3) || e != api.OK {
			t.Error(k, f, int(e))
		}
	}
}

func TestGood(t *testing.T) {
	small(0, 4, func(f api.Field) {
		if Good(f) != ordered(f) {
			t.Fatal(f, Good(f))
		}
	})
}

func TestGoodAtTheEnds(t *testing.T) {
	for _, f := range []api.Field{
		{},
		made(least, least, least, least, least, least),
		made(greatest, greatest, greatest, greatest, greatest, greatest),
		made(least, least, least, greatest, greatest, greatest),
		made(least, least, greatest, least, greatest, greatest),
		made(least, 0, 0, 0, 0, greatest),
	} {
		if !Good(f) {
			t.Error(f)
		}
	}
	for _, f := range []api.Field{
		made(greatest, 0, 0, 0, 0, least),
		made(1, 0, 0, 0, 0, 0),
		made(0, 0, 0, 0, 0, -1),
		made(least, 0, least, 0, 0, greatest),
		made(least, 0, greatest, 0, 0, greatest),
		made(least, 0, 0, least, 0, greatest),
		made(least, 0, 0, greatest, 0, greatest),
	} {
		if Good(f) {
			t.Error(f)
		}
	}
}

// P17.2

func TestExample(t *testing.T) {
	f, e := New(api.Decl{Lo: 0, Init: 4, Hi: 10})
	if e != api.OK {
		t.Fatal(int(e))
	}
	f, e = Grant(f, 5)
	if f != made(0, 4, 4, 9, 9, 10) || e != api.OK {
		t.Fatal(f, int(e))
	}
	if g, e := Grant(f, 2); g != f || e != api.ErrBounds {
		t.Fatal(g, int(e))
	}
	f, e = Grant(f, -4)
	if f != made(0, 0, 4, 5, 9, 10) || e != api.OK {
		t.Fatal(f, int(e))
	}
}

func TestEachChange(t *testing.T) {
	f := made(-100, -30, 1, 2, 40, 100)
	for _, x := range []struct {
		make func(api.Field, int64) (api.Field, api.Errno)
		d    int64
		want api.Field
	}{
		{Grant, 60, made(-100, -30, 1, 62, 100, 100)},
		{Grant, -70, made(-100, -100, 1, -68, 40, 100)},
		{Undo, 7, made(-100, -30, 1, -5, 33, 100)},
		{Undo, -7, made(-100, -23, 1, 9, 40, 100)},
		{Settle, 7, made(-100, -23, 8, 2, 40, 100)},
		{Settle, -7, made(-100, -30, -6, 2, 33, 100)},
		{Back, 7, made(-100, -30, 1, -5, 40, 100)},
		{Back, -7, made(-100, -30, 1, 9, 40, 100)},
		{Forth, 7, made(-100, -30, 1, 9, 40, 100)},
		{Forth, -7, made(-100, -30, 1, -5, 40, 100)},
		{Drop, 7, made(-100, -30, 1, 2, 33, 100)},
		{Drop, -7, made(-100, -23, 1, 2, 40, 100)},
	} {
		if g, e := x.make(f, x.d); g != x.want || e != api.OK {
			t.Error(x.d, g, int(e), "want", x.want)
		}
	}
}

func TestSmallFields(t *testing.T) {
	for _, c := range calls() {
		small(0, 3, func(f api.Field) {
			for d := int64(-4); d <= 4; d++ {
				check(t, c, f, d)
			}
		})
	}
}

func TestWideFields(t *testing.T) {
	r := rand.New(rand.NewSource(17))
	for range 2000 {
		f := wide(r)
		for _, c := range calls() {
			for _, d := range ends() {
				check(t, c, f, d)
			}
		}
	}
}

func TestFieldsThatAreNotGoodComeFirst(t *testing.T) {
	for _, c := range calls() {
		for _, f := range []api.Field{{Lo: 1}, {Inf: 1}, {Base: 1}, {Value: -1}, {Sup: -1}, {Hi: -1}, made(0, 0, 0, 0, greatest, 0), made(0, least, 0, 0, 0, 0)} {
			for _, d := range ends() {
				if g, e := c.make(f, d); g != f || e != api.ErrState {
					t.Error(c.name, f, d, g, int(e))
				}
			}
		}
	}
}

func TestWhatIsNoAddition(t *testing.T) {
	for _, c := range calls() {
		for _, f := range []api.Field{{}, made(0, 4, 4, 4, 4, 10), made(least, least, -1, 0, greatest, greatest)} {
			for _, d := range []int64{0, least} {
				if g, e := c.make(f, d); g != f || e != api.ErrArg {
					t.Error(c.name, f, d, g, int(e))
				}
			}
		}
	}
}

func TestOverflowComesAheadOfBounds(t *testing.T) {
	up := made(0, 0, 1, 1, 1, 1)
	down := made(-2, -2, -2, 0, 0, 0)
	for _, x := range []struct {
		f api.Field
		d int64
		e api.Errno
	}{
		{up, greatest, api.ErrOverflow},
		{up, greatest - 1, api.ErrBounds},
		{up, 1, api.ErrBounds},
		{down, least + 1, api.ErrOverflow},
		{down, least + 2, api.ErrBounds},
		{down, -1, api.ErrBounds},
	} {
		if g, e := Grant(x.f, x.d); g != x.f || e != x.e {
			t.Error(x.f, x.d, g, int(e))
		}
	}
}

func TestSumsThatAreNone(t *testing.T) {
	low := made(least, least, least, least, 0, 0)
	high := made(0, 0, greatest, greatest, greatest, greatest)
	for _, x := range []struct {
		make func(api.Field, int64) (api.Field, api.Errno)
		f    api.Field
		d    int64
	}{
		{Undo, low, 1}, {Back, low, 1}, {Forth, low, -1}, {Settle, low, -1},
		{Undo, high, -1}, {Back, high, -1}, {Forth, high, 1}, {Settle, high, 1},
		{Drop, made(least, least, least, least, least, least), 1},
		{Drop, made(greatest, greatest, greatest, greatest, greatest, greatest), -1},
		{Settle, made(greatest-1, greatest-1, greatest-1, greatest-1, greatest, greatest), greatest},
	} {
		if g, e := x.make(x.f, x.d); g != x.f || e != api.ErrState {
			t.Error(x.f, x.d, g, int(e))
		}
	}
}

// P17.3

func TestGoodStays(t *testing.T) {
	r := rand.New(rand.NewSource(3))
	for range 300 {
		f := wide(r)
		for range 60 {
			c := calls()[r.Intn(len(calls()))]
			d := ends()[r.Intn(len(ends()))]
			g, e := c.make(f, d)
			if !ordered(g) || e != api.OK && g != f {
				t.Fatal(c.name, f, d, g, int(e))
			}
			if g.Lo != f.Lo || g.Hi != f.Hi {
				t.Fatal(c.name, f, d, g)
			}
			f = g
		}
	}
}

// each makes changes by d, one behind another: all of them must go.
func each(t *testing.T, f api.Field, d int64, l ...func(api.Field, int64) (api.Field, api.Errno)) api.Field {
	t.Helper()
	for i, make := range l {
		g, e := make(f, d)
		if e != api.OK {
			t.Fatal(i, f, d, int(e))
		}
		f = g
	}
	return f
}

// grants hands on fields that are Good with an addition that is granted.
func grants(see func(api.Field, int64)) {
	small(0, 3, func(f api.Field) {
		for d := int64(-3); d <= 3; d++ {
			if _, e := Grant(f, d); e == api.OK {
				see(f, d)
			}
		}
	})
	r := rand.New(rand.NewSource(4))
	for range 1000 {
		f := wide(r)
		for _, d := range ends() {
			if _, e := Grant(f, d); e == api.OK {
				see(f, d)
			}
		}
	}
}

func TestThereAndBack(t *testing.T) {
	seen := 0
	grants(func(f api.Field, d int64) {
		seen++
		if g := each(t, f, d, Grant, Undo); g != f {
			t.Fatal(f, d, g)
		}
		if g := each(t, f, d, Grant, Back, Drop); g != f {
			t.Fatal(f, d, g)
		}
		if g := each(t, f, d, Grant, Back, Forth); g != each(t, f, d, Grant) {
			t.Fatal(f, d, g)
		}
		if g := each(t, f, d, Grant, Back, Forth, Undo); g != f {
			t.Fatal(f, d, g)
		}
	})
	if seen < 1000 {
		t.Error(seen)
	}
}

func TestTwoGrantsInAnyOrder(t *testing.T) {
	r := rand.New(rand.NewSource(5))
	both, none := 0, 0
	for range 2000 {
		f := wide(r)
		a, b := ends()[r.Intn(len(ends()))], ends()[r.Intn(len(ends()))]
		first, okFirst := two(f, a, b)
		second, okSecond := two(f, b, a)
		if okFirst != okSecond || first != second {
			t.Fatal(f, a, b, first, second)
		}
		if okFirst {
			both++
		} else {
			none++
		}
	}
	if both < 50 || none < 50 {
		t.Error(both, none)
	}
}

// two grants both additions; false: one of them is refused.
func two(f api.Field, a, b int64) (api.Field, bool) {
	g, e := Grant(f, a)
	if e != api.OK {
		return api.Field{}, false
	}
	g, e = Grant(g, b)
	if e != api.OK {
		return api.Field{}, false
	}
	return g, true
}

// TestWhateverBecomesOfThem settles and undoes what was granted, in each way in which it may be done.
func TestWhateverBecomesOfThem(t *testing.T) {
	r := rand.New(rand.NewSource(6))
	for range 400 {
		f, _ := New(api.Decl{Lo: -10, Init: int64(r.Intn(21) - 10), Hi: 10})
		open := f
		var l []int64
		for range 9 {
			d := int64(r.Intn(11) - 5)
			if g, e := Grant(open, d); e == api.OK {
				open, l = g, append(l, d)
			}
		}
		for ways := range 1 << len(l) {
			end(t, r, f, open, l, ways)
		}
	}
}

// end closes all additions, in any order: those that ways names are settled, the others are undone.
func end(t *testing.T, r *rand.Rand, f, open api.Field, l []int64, ways int) {
	t.Helper()
	g := open
	base := f.Base
	for _, i := range r.Perm(len(l)) {
		if ways>>i&1 == 1 {
			g = each(t, g, l[i], Settle)
			base += l[i]
		} else if r.Intn(2) == 0 {
			g = each(t, g, l[i], Undo)
		} else {
			g = each(t, g, l[i], Back, Drop)
		}
		if !ordered(g) {
			t.Fatal(open, l, g)
		}
	}
	if g != made(f.Lo, base, base, base, base, f.Hi) {
		t.Fatal(open, l, ways, g, base)
	}
	if base < open.Inf || base > open.Sup {
		t.Fatal(open, l, ways, base)
	}
}
