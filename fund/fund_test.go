package fund

import (
	"maps"
	"math"
	"math/rand"
	"slices"
	"testing"

	"pledge/api"
	"pledge/field"
)

const (
	least    = math.MinInt64
	greatest = math.MaxInt64
)

// fields is what a fund must have.
type fields map[api.Key]api.Field

// call is one of the calls that change a field by an addition.
type call struct {
	name  string
	fund  func(*Fund, api.Op) api.Errno
	field func(api.Field, int64) (api.Field, api.Errno)
}

func calls() []call {
	return []call{
		{"Grant", (*Fund).Grant, field.Grant},
		{"Undo", (*Fund).Undo, field.Undo},
		{"Settle", (*Fund).Settle, field.Settle},
		{"Back", (*Fund).Back, field.Back},
		{"Forth", (*Fund).Forth, field.Forth},
		{"Drop", (*Fund).Drop, field.Drop},
	}
}

// made is a field of these numbers, in the order in which they stand.
func made(lo, inf, base, value, sup, hi int64) api.Field {
	return api.Field{Lo: lo, Inf: inf, Base: base, Value: value, Sup: sup, Hi: hi}
}

// still is a field in which nothing is open.
func still(lo, init, hi int64) api.Field {
	return made(lo, init, init, init, init, hi)
}

func stock(ware uint8) api.Key { return api.Key{Kind: api.KStock, Ware: ware} }

func owed(sku uint8) api.Key { return api.Key{Kind: api.KOwed, Sku: sku} }

// odd are keys next to the edges, of which no engine has fields, rising.
func odd() []api.Key {
	return []api.Key{{}, {Ware: 1}, {Sku: 1}, {Kind: 1, Sku: 4}, {Kind: 1, Sku: 255, Ware: 255}, {Kind: 3, Ware: 1}, {Kind: 5}, {Kind: 255, Sku: 255, Ware: 254}, {Kind: 255, Sku: 255, Ware: 255}}
}

// before tells whether a is ahead of b, by Kind, Sku and Ware.
func before(a, b api.Key) bool {
	number := func(k api.Key) int { return int(k.Kind)<<16 | int(k.Sku)<<8 | int(k.Ware) }
	return number(a) < number(b)
}

// few is a fund of four fields with room on both sides, and what it must have.
func few() (*Fund, fields) {
	f := New([]api.Decl{
		{Key: owed(0), Lo: 0, Init: 0, Hi: 3},
		{Key: stock(1), Lo: -50, Init: 7, Hi: 50},
		{Key: stock(0), Lo: 0, Init: 5, Hi: 10},
		{Key: api.Key{Kind: 200, Sku: 9, Ware: 9}, Lo: least, Init: 0, Hi: greatest},
	})
	return f, fields{
		owed(0):                             still(0, 0, 3),
		stock(1):                            still(-50, 7, 50),
		stock(0):                            still(0, 5, 10),
		api.Key{Kind: 200, Sku: 9, Ware: 9}: still(least, 0, greatest),
	}
}

// has asks that a fund has just these fields, by each call that tells of them.
func has(t *testing.T, what string, f *Fund, want fields) {
	t.Helper()
	keys := f.Keys()
	if len(keys) != len(want) {
		t.Fatalf("%s: keys %v; want %v", what, keys, want)
	}
	for i, k := range keys {
		if i > 0 && !before(keys[i-1], k) {
			t.Errorf("%s: keys %v do not rise", what, keys)
		}
		w, is := want[k]
		if !is {
			t.Errorf("%s: there is a field of %v", what, k)
		}
		if x, is := f.Get(k); x != w || !is {
			t.Errorf("%s: of %v it has %v, %v; want %v", what, k, x, is, w)
		}
	}
}

// lacks asks that there is no field of a key.
func lacks(t *testing.T, what string, f *Fund, k api.Key) {
	t.Helper()
	if x, is := f.Get(k); x != (api.Field{}) || is {
		t.Errorf("%s: of %v it has %v, %v", what, k, x, is)
	}
}

// asks asks for an error.
func asks(t *testing.T, what string, got, want api.Errno) {
	t.Helper()
	if got != want {
		t.Errorf("%s: error %d; want %d", what, got, want)
	}
}

// some are additions next to 0 and to the ends.
func some() []int64 {
	return []int64{least, least + 1, -51, -5, -4, -2, -1, 0, 1, 2, 3, 4, 5, 51, greatest - 1, greatest}
}

// P18.1: New

func TestNewOfNone(t *testing.T) {
	for _, l := range [][]api.Decl{nil, {}} {
		f := New(l)
		if f == nil {
			t.Fatal("New is nil")
		}
		has(t, "a fund of none", f, nil)
		for _, k := range append(odd(), stock(0), owed(0)) {
			lacks(t, "a fund of none", f, k)
		}
	}
}

func TestNewHasAFieldOfEachDeclaration(t *testing.T) {
	f, want := few()
	has(t, "a new fund", f, want)
	for _, k := range append(odd(), stock(2), owed(1)) {
		lacks(t, "a new fund", f, k)
	}
}

func TestNewTakesAnyKey(t *testing.T) {
	var l []api.Decl
	want := fields{}
	for i, k := range odd() {
		l = append(l, api.Decl{Key: k, Lo: int64(-i), Init: int64(i), Hi: int64(3 * i)})
		want[k] = still(int64(-i), int64(i), int64(3*i))
	}
	slices.Reverse(l)
	f := New(l)
	has(t, "odd keys", f, want)
	if keys := f.Keys(); !slices.Equal(keys, odd()) {
		t.Errorf("keys %v; want %v", keys, odd())
	}
}

func TestNewLeavesOutWhatMayNotBe(t *testing.T) {
	ends := []int64{least, -1, 0, 1, greatest}
	for _, lo := range ends {
		for _, init := range ends {
			for _, hi := range ends {
				f := New([]api.Decl{{Key: stock(1), Hi: 1}, {Key: stock(0), Lo: lo, Init: init, Hi: hi}, {Key: stock(2), Hi: 2}})
				want := fields{stock(1): still(0, 0, 1), stock(2): still(0, 0, 2)}
				if lo <= init && init <= hi {
					want[stock(0)] = still(lo, init, hi)
				} else {
					lacks(t, "bounds that may not be", f, stock(0))
				}
				has(t, "bounds", f, want)
			}
		}
	}
}

func TestNewOfTwoOfOneKeyTakesTheLast(t *testing.T) {
	f := New([]api.Decl{{Key: stock(0), Init: 1, Hi: 5}, {Key: owed(1), Hi: 9}, {Key: stock(0), Lo: -1, Init: 2, Hi: 6}})
	has(t, "two of one key", f, fields{stock(0): still(-1, 2, 6), owed(1): still(0, 0, 9)})
	f = New([]api.Decl{{Key: owed(2), Hi: 3}, {Key: owed(2), Hi: 2}, {Key: owed(2), Hi: 1}})
	has(t, "three of one key", f, fields{owed(2): still(0, 0, 1)})
}

func TestNewOfTwoOfOneKeyOfWhichOneMayNotBe(t *testing.T) {
	good, bad := api.Decl{Key: owed(0), Init: 1, Hi: 5}, api.Decl{Key: owed(0), Lo: 2, Init: 1, Hi: 5}
	for _, l := range [][]api.Decl{{good, bad}, {bad, good}, {bad, good, bad}} {
		has(t, "one that may not be", New(l), fields{owed(0): still(0, 1, 5)})
	}
	has(t, "none that may be", New([]api.Decl{bad, bad}), nil)
}

func TestNewKeepsNothingOfItsList(t *testing.T) {
	l := []api.Decl{{Key: stock(0), Init: 4, Hi: 10}, {Key: owed(0), Lo: 1}}
	was := slices.Clone(l)
	f := New(l)
	f.Grant(api.Op{Key: stock(0), Delta: 2})
	if !slices.Equal(l, was) {
		t.Errorf("the list is %v; it was %v", l, was)
	}
	l[0].Key, l[0].Hi = stock(1), 3
	has(t, "behind a change of the list", f, fields{stock(0): made(0, 4, 4, 6, 6, 10)})
}

// P18.1: Get, Set, Keys

func TestSet(t *testing.T) {
	f, want := few()
	for _, x := range []api.Field{
		made(-3, -2, 0, 1, 5, 9),
		made(-3, -2, 1, 0, 5, 9),
		{},
		made(least, least, greatest, least, greatest, greatest),
		made(greatest, greatest, greatest, greatest, greatest, greatest),
		still(4, 5, 6),
	} {
		asks(t, "Set", f.Set(stock(0), x), api.OK)
		want[stock(0)] = x
		has(t, "behind Set", f, want)
	}
}

func TestSetOfNoGoodField(t *testing.T) {
	f, want := few()
	for _, x := range []api.Field{
		{Lo: 1}, {Inf: 1}, {Base: 1}, {Base: -1}, {Value: 1}, {Value: -1}, {Sup: -1}, {Sup: 1}, {Hi: -1},
		made(greatest, 0, 0, 0, 0, least),
	} {
		asks(t, "Set of no good field", f.Set(stock(0), x), api.ErrState)
		has(t, "behind a Set that was refused", f, want)
	}
}

func TestSetOfNoKey(t *testing.T) {
	f, want := few()
	for _, k := range append(odd(), stock(2), owed(1)) {
		asks(t, "Set of no key", f.Set(k, still(0, 1, 2)), api.ErrUnknown)
		asks(t, "Set of no key and no good field", f.Set(k, api.Field{Lo: 1}), api.ErrUnknown)
		lacks(t, "behind a Set of no key", f, k)
	}
	has(t, "behind a Set of no key", f, want)
}

func TestKeysAreNewMemory(t *testing.T) {
	f, want := few()
	l := f.Keys()
	clear(l)
	has(t, "behind a change of the keys", f, want)
}

// P18.2: the changes

func TestExample(t *testing.T) {
	f := New([]api.Decl{{Key: owed(0), Lo: 0, Hi: 3}})
	two := api.Op{Key: owed(0), Delta: 2}
	asks(t, "Try of two", f.Try([]api.Op{two, two}), api.ErrBounds)
	has(t, "behind Try", f, fields{owed(0): still(0, 0, 3)})
	asks(t, "Try of one", f.Try([]api.Op{two}), api.OK)
	has(t, "behind Try", f, fields{owed(0): still(0, 0, 3)})
}

func TestEachChange(t *testing.T) {
	at := made(-100, -30, 1, 2, 40, 100)
	for _, x := range []struct {
		make func(*Fund, api.Op) api.Errno
		d    int64
		want api.Field
		e    api.Errno
	}{
		{(*Fund).Grant, 60, made(-100, -30, 1, 62, 100, 100), api.OK},
		{(*Fund).Grant, -70, made(-100, -100, 1, -68, 40, 100), api.OK},
		{(*Fund).Grant, 61, at, api.ErrBounds},
		{(*Fund).Grant, -71, at, api.ErrBounds},
		{(*Fund).Grant, greatest, at, api.ErrOverflow},
		{(*Fund).Grant, 0, at, api.ErrArg},
		{(*Fund).Undo, 7, made(-100, -30, 1, -5, 33, 100), api.OK},
		{(*Fund).Undo, -7, made(-100, -23, 1, 9, 40, 100), api.OK},
		{(*Fund).Undo, 33, at, api.ErrState},
		{(*Fund).Settle, 7, made(-100, -23, 8, 2, 40, 100), api.OK},
		{(*Fund).Settle, -7, made(-100, -30, -6, 2, 33, 100), api.OK},
		{(*Fund).Settle, 33, at, api.ErrState},
		{(*Fund).Back, 7, made(-100, -30, 1, -5, 40, 100), api.OK},
		{(*Fund).Back, 33, at, api.ErrState},
		{(*Fund).Forth, 7, made(-100, -30, 1, 9, 40, 100), api.OK},
		{(*Fund).Forth, 39, at, api.ErrState},
		{(*Fund).Drop, 7, made(-100, -30, 1, 2, 33, 100), api.OK},
		{(*Fund).Drop, -7, made(-100, -23, 1, 2, 40, 100), api.OK},
		{(*Fund).Drop, least, at, api.ErrArg},
	} {
		f, want := few()
		asks(t, "Set", f.Set(stock(1), at), api.OK)
		asks(t, "a change", x.make(f, api.Op{Key: stock(1), Delta: x.d}), x.e)
		want[stock(1)] = x.want
		has(t, "behind a change", f, want)
	}
}

func TestChangesAreThoseOfField(t *testing.T) {
	at := []api.Field{made(-50, -4, 0, 3, 5, 50), made(least, least, 0, -1, greatest, greatest), made(0, 1, 2, 2, 5, 6), {}}
	for _, c := range calls() {
		for _, x := range at {
			for _, d := range some() {
				f, want := few()
				f.Set(stock(0), x)
				y, e := c.field(x, d)
				asks(t, c.name, c.fund(f, api.Op{Key: stock(0), Delta: d}), e)
				want[stock(0)] = y
				has(t, "behind "+c.name, f, want)
			}
		}
	}
}

func TestChangesOfNoKey(t *testing.T) {
	f, want := few()
	for _, c := range calls() {
		for _, k := range append(odd(), stock(2), owed(1)) {
			for _, d := range some() {
				asks(t, c.name, c.fund(f, api.Op{Key: k, Delta: d}), api.ErrUnknown)
			}
			lacks(t, "behind "+c.name, f, k)
		}
		has(t, "behind "+c.name, f, want)
	}
}

func TestOfBoundsThatMayNotBeThereIsNoField(t *testing.T) {
	f := New([]api.Decl{{Key: owed(3), Lo: 1}})
	for _, c := range calls() {
		asks(t, c.name, c.fund(f, api.Op{Key: owed(3), Delta: 1}), api.ErrUnknown)
	}
	asks(t, "Set", f.Set(owed(3), api.Field{}), api.ErrUnknown)
	asks(t, "Try", f.Try([]api.Op{{Key: owed(3), Delta: 1}}), api.ErrUnknown)
}

// P18.2: Try

func TestTryTellsTheFirstError(t *testing.T) {
	a, b := stock(0), owed(0) // from 0 to 10 with 5; from 0 to 3 with 0
	for _, x := range []struct {
		l []api.Op
		e api.Errno
	}{
		{nil, api.OK},
		{[]api.Op{}, api.OK},
		{[]api.Op{{Key: a, Delta: 5}, {Key: a, Delta: -5}, {Key: b, Delta: 3}}, api.OK},
		{[]api.Op{{Key: a, Delta: 3}, {Key: b, Delta: 3}, {Key: a, Delta: 3}}, api.ErrBounds},
		// What is taken away may be undone: it makes no room for what is added.
		{[]api.Op{{Key: a, Delta: 5}, {Key: a, Delta: -1}, {Key: a, Delta: 1}}, api.ErrBounds},
		{[]api.Op{{Key: b, Delta: 1}, {Key: b, Delta: -1}}, api.ErrBounds},
		{[]api.Op{{Key: owed(1), Delta: 1}}, api.ErrUnknown},
		{[]api.Op{{Key: a, Delta: 0}, {Key: owed(1), Delta: 1}}, api.ErrArg},
		{[]api.Op{{Key: owed(1), Delta: 1}, {Key: a, Delta: 0}}, api.ErrUnknown},
		{[]api.Op{{Key: a, Delta: 6}, {Key: owed(1), Delta: 0}}, api.ErrBounds},
		{[]api.Op{{Key: a, Delta: greatest}, {Key: a, Delta: 6}}, api.ErrOverflow},
		{[]api.Op{{Key: a, Delta: 6}, {Key: a, Delta: greatest}}, api.ErrBounds},
		{[]api.Op{{Key: a, Delta: 1}, {Key: a, Delta: least}}, api.ErrArg},
		{[]api.Op{{Key: a, Delta: 1}, {Key: b, Delta: 1}, {Key: owed(1), Delta: 1}, {Key: b, Delta: 9}}, api.ErrUnknown},
	} {
		f, want := few()
		was := slices.Clone(x.l)
		asks(t, "Try", f.Try(x.l), x.e)
		has(t, "behind Try", f, want)
		if !slices.Equal(x.l, was) {
			t.Errorf("the list is %v; it was %v", x.l, was)
		}
	}
}

// P18.2: Copy

func TestCopyGoesItsOwnWay(t *testing.T) {
	f, want := few()
	o := api.Op{Key: stock(0), Delta: 2}
	asks(t, "Grant", f.Grant(o), api.OK)
	want[stock(0)] = made(0, 5, 5, 7, 7, 10)
	c := f.Copy()
	has(t, "a copy", c, want)

	asks(t, "Settle in the copy", c.Settle(o), api.OK)
	asks(t, "Set in the copy", c.Set(owed(0), still(1, 2, 3)), api.OK)
	has(t, "what was copied", f, want)

	asks(t, "Undo in what was copied", f.Undo(o), api.OK)
	wantCopy := maps.Clone(want)
	wantCopy[stock(0)] = made(0, 7, 7, 7, 7, 10)
	wantCopy[owed(0)] = still(1, 2, 3)
	has(t, "the copy", c, wantCopy)
	want[stock(0)] = still(0, 5, 10)
	has(t, "what was copied", f, want)
}

func TestCopyOfNone(t *testing.T) {
	c := New(nil).Copy()
	if c == nil {
		t.Fatal("a copy is nil")
	}
	has(t, "a copy of none", c, nil)
	asks(t, "Grant", c.Grant(api.Op{Key: stock(0), Delta: 1}), api.ErrUnknown)
}

// Nil, and a fund that no call made

func TestOfNil(t *testing.T) {
	for _, f := range []*Fund{nil, {}} {
		lacks(t, "none", f, stock(0))
		if l := f.Keys(); len(l) != 0 {
			t.Errorf("keys %v", l)
		}
		asks(t, "Set", f.Set(stock(0), api.Field{}), api.ErrUnknown)
		asks(t, "Set of no good field", f.Set(stock(0), api.Field{Lo: 1}), api.ErrUnknown)
		for _, c := range calls() {
			for _, d := range some() {
				asks(t, c.name, c.fund(f, api.Op{Key: stock(0), Delta: d}), api.ErrUnknown)
			}
		}
		asks(t, "Try of nil", f.Try(nil), api.OK)
		asks(t, "Try of none", f.Try([]api.Op{}), api.OK)
		asks(t, "Try", f.Try([]api.Op{{Key: stock(0), Delta: 1}}), api.ErrUnknown)
		asks(t, "Try of 0", f.Try([]api.Op{{}, {}}), api.ErrUnknown)
		c := f.Copy()
		if c == nil {
			t.Fatal("a copy is nil")
		}
		has(t, "a copy", c, nil)
	}
}

// P18.3

// random are additions to the keys of few, and now and then to another one.
func random(r *rand.Rand, n int) []api.Op {
	keys := []api.Key{stock(0), stock(0), stock(1), owed(0), {Kind: 200, Sku: 9, Ware: 9}}
	var l []api.Op
	for range n {
		o := api.Op{Key: keys[r.Intn(len(keys))], Delta: int64(r.Intn(7) - 3)}
		switch r.Intn(40) {
		case 0:
			o.Key = owed(3)
		case 1:
			o.Delta = some()[r.Intn(len(some()))]
		}
		l = append(l, o)
	}
	return l
}

// all is what a fund has.
func all(f *Fund) fields {
	l := fields{}
	for _, k := range f.Keys() {
		l[k], _ = f.Get(k)
	}
	return l
}

// grant grants additions up to the first one that is refused, and tells its error.
func grant(f *Fund, l []api.Op) api.Errno {
	for _, o := range l {
		if e := f.Grant(o); e != api.OK {
			return e
		}
	}
	return api.OK
}

func TestWhatTryFindsGoodIsGranted(t *testing.T) {
	r := rand.New(rand.NewSource(18))
	good, bad := 0, 0
	for range 5000 {
		f, _ := few()
		grant(f, random(r, r.Intn(4)))
		was := all(f)
		l := random(r, r.Intn(8))
		e := f.Try(l)
		has(t, "behind Try", f, was)
		asks(t, "what Try told", grant(f, l), e)
		if e == api.OK {
			good++
		} else {
			bad++
		}
		if t.Failed() {
			t.Fatal(l)
		}
	}
	if good < 500 || bad < 500 {
		t.Error(good, bad)
	}
}

func TestWhatIsGrantedIsUndoneInAnyOrder(t *testing.T) {
	r := rand.New(rand.NewSource(19))
	longest := 0
	for range 3000 {
		f, _ := few()
		grant(f, random(r, r.Intn(4)))
		was := all(f)
		var l []api.Op
		for _, o := range random(r, r.Intn(12)) {
			if f.Grant(o) == api.OK {
				l = append(l, o)
			}
		}
		longest = max(longest, len(l))
		for _, i := range r.Perm(len(l)) {
			asks(t, "Undo", f.Undo(l[i]), api.OK)
		}
		has(t, "behind all Undos", f, was)
		if t.Failed() {
			t.Fatal(l)
		}
	}
	if longest < 6 {
		t.Error(longest)
	}
}
