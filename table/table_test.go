package table

import (
	"cmp"
	"maps"
	"math"
	"slices"
	"testing"

	"pledge/api"
)

// pair is a key and what stands there.
type pair struct {
	k api.Key
	v int
}

// near are keys of each kind there is, and of those next to them, with articles and warehouses next to the edges, rising.
func near() []api.Key {
	var l []api.Key
	part := []uint8{0, 1, 2, 3, 4, 5, 9, 10, 127, 128, 254, 255}
	for _, kind := range part {
		for _, sku := range part {
			for _, ware := range part {
				l = append(l, api.Key{Kind: kind, Sku: sku, Ware: ware})
			}
		}
	}
	return l
}

// mixed are keys that rise, out of their order.
func mixed(l []api.Key) []api.Key {
	var m []api.Key
	for i := range l {
		m = append(m, l[i*997%len(l)])
	}
	return m
}

// small are a few keys that fields have, rising.
func small() []api.Key {
	return []api.Key{{Kind: 1}, {Kind: 1, Ware: 1}, {Kind: 2, Sku: 1}, {Kind: 3, Sku: 2}, {Kind: 4}}
}

// numbered is a table that has 1 at the first of l, 2 at the next one, and so on.
func numbered(l []api.Key) *Table[int] {
	x := New[int]()
	for i, k := range l {
		x.Put(k, i+1)
	}
	return x
}

// gone is what All goes over.
func gone(x *Table[int]) []pair {
	var l []pair
	for k, v := range x.All() {
		l = append(l, pair{k, v})
	}
	return l
}

// rising are the pairs of m by the three numbers of their keys.
func rising(m map[api.Key]int) []pair {
	var l []pair
	for k, v := range m {
		l = append(l, pair{k, v})
	}
	slices.SortFunc(l, func(a, b pair) int {
		return cmp.Compare(int(a.k.Kind)<<16|int(a.k.Sku)<<8|int(a.k.Ware), int(b.k.Kind)<<16|int(b.k.Sku)<<8|int(b.k.Ware))
	})
	return l
}

// has asks that a table has just what stands in want, by each call that tells of it.
func has(t *testing.T, what string, x *Table[int], want map[api.Key]int) {
	t.Helper()
	l := rising(want)
	if n := x.Len(); n != len(l) {
		t.Errorf("%s: Len is %d; want %d", what, n, len(l))
	}
	keys := x.Keys()
	if len(keys) != len(l) {
		t.Fatalf("%s: %d keys; want %d", what, len(keys), len(l))
	}
	for i, p := range l {
		if keys[i] != p.k {
			t.Errorf("%s: key %d is %v; want %v", what, i, keys[i], p.k)
		}
		if v, is := x.Get(p.k); v != p.v || !is {
			t.Errorf("%s: at %v stands %d, %v; want %d", what, p.k, v, is, p.v)
		}
	}
	if all := gone(x); !slices.Equal(all, l) {
		t.Errorf("%s: All goes over %v; want %v", what, all, l)
	}
}

// lacks asks that nothing stands at a key.
func lacks(t *testing.T, what string, x *Table[int], k api.Key) {
	t.Helper()
	if v, is := x.Get(k); v != 0 || is {
		t.Errorf("%s: at %v stands %d, %v", what, k, v, is)
	}
}

// P5.1: a table, and New

func TestNewHasNone(t *testing.T) {
	x := New[int]()
	if x == nil {
		t.Fatal("New is nil")
	}
	has(t, "a new table", x, nil)
	for _, k := range near() {
		lacks(t, "a new table", x, k)
		if x.Del(k) {
			t.Errorf("something stood at %v of a new table", k)
		}
	}
}

func TestTablesAreApart(t *testing.T) {
	a, b := New[int](), New[int]()
	k := api.Key{Kind: 1}
	a.Put(k, 5)
	has(t, "the other table", b, nil)
	b.Put(k, 6)
	b.Put(api.Key{}, 7)
	has(t, "the first table", a, map[api.Key]int{k: 5})
	b.Del(k)
	has(t, "the first table", a, map[api.Key]int{k: 5})
}

func TestWhicheverKeys(t *testing.T) {
	// Keys that are of no field are keys as well, and each part tells them apart.
	x, want := New[int](), map[api.Key]int{}
	for i, k := range mixed(near()) {
		lacks(t, "ahead of Put", x, k)
		x.Put(k, i)
		want[k] = i
	}
	has(t, "all keys", x, want)
	for i, k := range mixed(near()) {
		if i%2 == 1 {
			continue
		}
		if !x.Del(k) {
			t.Errorf("nothing stood at %v", k)
		}
		delete(want, k)
		lacks(t, "behind Del", x, k)
	}
	has(t, "half of the keys", x, want)
}

func TestEachPartTellsKeysApart(t *testing.T) {
	k := api.Key{Kind: 3, Sku: 1}
	others := []api.Key{{Kind: 4, Sku: 1}, {Kind: 3, Sku: 0}, {Kind: 3, Sku: 1, Ware: 1}, {Kind: 1, Sku: 3}, {}, {Kind: 0, Sku: 3, Ware: 1}}
	for _, o := range others {
		x := New[int]()
		x.Put(k, 1)
		lacks(t, "a table of one key", x, o)
		if x.Del(o) {
			t.Errorf("something stood at %v", o)
		}
		x.Put(o, 2)
		has(t, "a table of two keys", x, map[api.Key]int{k: 1, o: 2})
	}
}

func TestValuesOfEachType(t *testing.T) {
	k := api.Key{Kind: 1, Sku: 1}
	f := New[api.Field]()
	f.Put(k, api.Field{Lo: math.MinInt64, Hi: math.MaxInt64})
	if v, is := f.Get(k); v != (api.Field{Lo: math.MinInt64, Hi: math.MaxInt64}) || !is {
		t.Errorf("a field: %v, %v", v, is)
	}
	if v, is := f.Get(api.Key{}); v != (api.Field{}) || is {
		t.Errorf("no field: %v, %v", v, is)
	}
	p, n := New[*int](), 7
	p.Put(k, &n)
	if v, is := p.Get(k); v != &n || !is {
		t.Errorf("a pointer: %v, %v", v, is)
	}
	if v, is := p.Get(api.Key{}); v != nil || is {
		t.Errorf("no pointer: %v, %v", v, is)
	}
	s := New[[]string]()
	s.Put(k, []string{"a", "b"})
	if v, is := s.Get(k); !slices.Equal(v, []string{"a", "b"}) || !is {
		t.Errorf("a list: %v, %v", v, is)
	}
	e := New[any]()
	e.Put(k, nil)
	if v, is := e.Get(k); v != nil || !is || e.Len() != 1 {
		t.Errorf("nil of an interface: %v, %v", v, is)
	}
	g := New[func() int]()
	g.Put(k, func() int { return 3 })
	if v, is := g.Get(k); !is || v() != 3 {
		t.Error("a function")
	}
	w := New[*Table[int]]()
	w.Put(k, numbered(small()))
	if v, is := w.Get(k); !is || v.Len() != 5 {
		t.Error("a table")
	}
}

func TestNotANumberStandsAsAnythingElse(t *testing.T) {
	x, k := New[float64](), api.Key{Kind: 1}
	x.Put(k, math.NaN())
	if v, is := x.Get(k); !math.IsNaN(v) || !is || x.Len() != 1 {
		t.Errorf("%v, %v, %d", v, is, x.Len())
	}
	if !x.Del(k) || x.Len() != 0 {
		t.Error("it was not taken out")
	}
}

// P5.1: Put

func TestPutTakesThePlace(t *testing.T) {
	x := numbered(small())
	k := small()[2]
	x.Put(k, 40)
	has(t, "one put twice", x, map[api.Key]int{small()[0]: 1, small()[1]: 2, k: 40, small()[3]: 4, small()[4]: 5})
	x.Put(k, 0)
	has(t, "0 in the place of 40", x, map[api.Key]int{small()[0]: 1, small()[1]: 2, k: 0, small()[3]: 4, small()[4]: 5})
	x.Put(k, 0)
	if x.Len() != 5 {
		t.Errorf("the same once more: Len is %d", x.Len())
	}
}

func TestPutKeepsAStructAsItWas(t *testing.T) {
	x, k := New[api.Field](), api.Key{Kind: 1}
	v := api.Field{Lo: 1, Hi: 9}
	x.Put(k, v)
	v.Hi = 10
	if is, _ := x.Get(k); is.Hi != 9 {
		t.Error("what stands there has changed with what was handed in")
	}
	is, _ := x.Get(k)
	is.Hi = 11
	if is, _ := x.Get(k); is.Hi != 9 {
		t.Error("what stands there has changed with the answer")
	}
}

// P5.1: Get

func TestGetOfAZeroValue(t *testing.T) {
	x, k := New[int](), api.Key{Kind: 4, Sku: 2}
	x.Put(k, 0)
	if v, is := x.Get(k); v != 0 || !is {
		t.Errorf("0 stands there: %d, %v", v, is)
	}
	x.Del(k)
	lacks(t, "0 taken out", x, k)
}

func TestGetOfWhatIsNotThere(t *testing.T) {
	x := numbered(small())
	for _, k := range near() {
		at := slices.Index(small(), k)
		if v, is := x.Get(k); v != at+1 || is != (at >= 0) {
			t.Errorf("at %v stands %d, %v", k, v, is)
		}
	}
	// To ask puts nothing there.
	has(t, "behind the asking", x, map[api.Key]int{small()[0]: 1, small()[1]: 2, small()[2]: 3, small()[3]: 4, small()[4]: 5})
}

// P5.1: Del, Len

func TestDel(t *testing.T) {
	x := numbered(small())
	want := map[api.Key]int{}
	for i, k := range small() {
		want[k] = i + 1
	}
	for _, at := range []int{2, 0, 4, 3, 1} {
		k := small()[at]
		if !x.Del(k) {
			t.Errorf("nothing stood at %v", k)
		}
		delete(want, k)
		lacks(t, "behind Del", x, k)
		has(t, "behind Del", x, want)
		if x.Del(k) {
			t.Errorf("something stood at %v behind Del", k)
		}
		has(t, "behind Del once more", x, want)
	}
}

func TestDelAndPutAgain(t *testing.T) {
	x, k := New[int](), api.Key{Kind: 2, Sku: 3, Ware: 1}
	for i := range 5 {
		x.Put(k, i)
		has(t, "put", x, map[api.Key]int{k: i})
		if !x.Del(k) || x.Del(k) {
			t.Errorf("round %d of Del", i)
		}
		has(t, "taken out", x, nil)
	}
}

func TestDelOfWhatWasPutTwice(t *testing.T) {
	x, k := New[int](), api.Key{Kind: 2}
	x.Put(k, 1)
	x.Put(k, 2)
	if !x.Del(k) {
		t.Error("nothing stood there")
	}
	has(t, "what was put twice, taken out", x, nil)
}

func TestLen(t *testing.T) {
	x := New[int]()
	for i, k := range mixed(near()) {
		if x.Len() != i {
			t.Fatalf("Len is %d; want %d", x.Len(), i)
		}
		x.Put(k, 0)
		x.Put(k, 1)
	}
	for i, k := range near() {
		x.Del(k)
		x.Del(k)
		if want := len(near()) - 1 - i; x.Len() != want {
			t.Fatalf("Len is %d; want %d", x.Len(), want)
		}
	}
}

// P5.1: Keys

func TestKeysOfTheExample(t *testing.T) {
	x := New[int]()
	x.Put(api.Key{Kind: api.KOwed, Sku: 1}, 1)
	x.Put(api.Key{Kind: api.KStock}, 2)
	if l := x.Keys(); !slices.Equal(l, []api.Key{{Kind: api.KStock}, {Kind: api.KOwed, Sku: 1}}) {
		t.Errorf("Keys is %v", l)
	}
}

// orders hands on each order of l's keys.
func orders(l []api.Key, n int, do func([]api.Key)) {
	if n == len(l) {
		do(l)
		return
	}
	for i := n; i < len(l); i++ {
		l[n], l[i] = l[i], l[n]
		orders(l, n+1, do)
		l[n], l[i] = l[i], l[n]
	}
}

func TestKeysRiseWhateverWasPutFirst(t *testing.T) {
	orders(small(), 0, func(l []api.Key) {
		x := New[int]()
		for _, k := range l {
			x.Put(k, int(k.Kind))
		}
		if keys := x.Keys(); !slices.Equal(keys, small()) {
			t.Errorf("put as %v: Keys is %v", l, keys)
		}
		var all []api.Key
		for k, v := range x.All() {
			all = append(all, k)
			if v != int(k.Kind) {
				t.Errorf("All goes over %v with %d", k, v)
			}
		}
		if !slices.Equal(all, small()) {
			t.Errorf("put as %v: All goes over %v", l, all)
		}
	})
}

func TestKeysAreAnew(t *testing.T) {
	x := numbered(small())
	a, b := x.Keys(), x.Keys()
	clear(a)
	if !slices.Equal(b, small()) || !slices.Equal(x.Keys(), small()) {
		t.Error("Keys has changed with an answer of it")
	}
	for i, k := range small() {
		if v, is := x.Get(k); v != i+1 || !is {
			t.Errorf("at %v stands %d, %v", k, v, is)
		}
	}
	x.Del(small()[0])
	x.Put(api.Key{}, 0)
	if !slices.Equal(b, small()) {
		t.Error("an answer of Keys has changed with the table")
	}
}

// P5.1: All

func TestAllGoesAsItWas(t *testing.T) {
	// What each step does to the table shows in the next going, and not in this one.
	l := small()
	acts := []func(x *Table[int], k api.Key){
		func(x *Table[int], k api.Key) { x.Del(k) },
		func(x *Table[int], k api.Key) {
			for _, k := range l {
				x.Del(k)
			}
		},
		func(x *Table[int], k api.Key) {
			for _, k := range l {
				x.Put(k, 100)
			}
		},
		func(x *Table[int], k api.Key) { x.Put(api.Key{Kind: k.Kind, Sku: k.Sku, Ware: k.Ware + 7}, 100) },
		func(x *Table[int], k api.Key) { x.Put(api.Key{}, 100) },
		func(x *Table[int], k api.Key) { x.Put(api.Key{Kind: 255, Sku: 255, Ware: 255}, 100) },
		func(x *Table[int], k api.Key) {
			x.Del(l[4])
			x.Put(l[4], 100)
		},
		func(x *Table[int], k api.Key) {
			for _, k := range near() {
				x.Put(k, 100)
			}
		},
	}
	for i, act := range acts {
		x := numbered(l)
		var all []pair
		for k, v := range x.All() {
			all = append(all, pair{k, v})
			act(x, k)
		}
		if !slices.Equal(all, []pair{{l[0], 1}, {l[1], 2}, {l[2], 3}, {l[3], 4}, {l[4], 5}}) {
			t.Errorf("act %d: All goes over %v", i, all)
		}
		again := numbered(l)
		for _, k := range l {
			act(again, k)
		}
		if !slices.Equal(gone(x), gone(again)) {
			t.Errorf("act %d: the next going goes over %v; want %v", i, gone(x), gone(again))
		}
	}
}

func TestAllBeginsWhenItIsGone(t *testing.T) {
	x := New[int]()
	all := x.All()
	k, o := api.Key{Kind: 2}, api.Key{Kind: 1}
	x.Put(k, 1)
	want := [][]pair{{{k, 1}}, {{o, 3}, {k, 2}}, {{o, 3}}, nil}
	for i, w := range want {
		// An iterator may be gone over more than once: each going begins anew.
		for range 2 {
			var l []pair
			for k, v := range all {
				l = append(l, pair{k, v})
			}
			if !slices.Equal(l, w) {
				t.Errorf("going %d goes over %v; want %v", i, l, w)
			}
		}
		switch i {
		case 0:
			x.Put(k, 2)
			x.Put(o, 3)
		case 1:
			x.Del(k)
		case 2:
			x.Del(o)
		}
	}
}

func TestAllStops(t *testing.T) {
	x, l := numbered(small()), small()
	for stop := range 5 {
		n := 0
		for k, v := range x.All() {
			if k != l[n] || v != n+1 {
				t.Errorf("step %d is %v, %d", n, k, v)
			}
			if n == stop {
				break
			}
			n++
		}
		if n != stop {
			t.Errorf("stopped at %d, not %d", n, stop)
		}
	}
	if len(gone(x)) != 5 {
		t.Error("a going that was stopped has changed the table")
	}
	steps := 0
	x.All()(func(api.Key, int) bool {
		steps++
		return steps < 3
	})
	if steps != 3 {
		t.Errorf("%d steps", steps)
	}
}

func TestAllWithinAll(t *testing.T) {
	x := numbered(small())
	n := 0
	for range x.All() {
		for k := range x.All() {
			n++
			if n > 5 {
				x.Del(k)
			}
		}
	}
	// The goings within: of 5, of 5 again, which takes out all, and then of none.
	if n != 10 {
		t.Errorf("%d steps", n)
	}
}

// P5.1: Copy

func TestCopyHasTheSame(t *testing.T) {
	x, want := New[int](), map[api.Key]int{}
	has(t, "a copy of a new table", x.Copy(), nil)
	for i, k := range mixed(near()) {
		x.Put(k, i)
		want[k] = i
	}
	c := x.Copy()
	if c == x {
		t.Error("a copy is the table itself")
	}
	has(t, "a copy", c, want)
	has(t, "a copy of a copy", c.Copy(), want)
	has(t, "what was copied", x, want)
}

func TestCopyGoesItsOwnWay(t *testing.T) {
	l := small()
	full := map[api.Key]int{l[0]: 1, l[1]: 2, l[2]: 3, l[3]: 4, l[4]: 5}
	x := numbered(l)
	c := x.Copy()
	d := c.Copy()
	x.Put(l[0], 10)
	x.Put(api.Key{}, 11)
	x.Del(l[1])
	has(t, "the copy, behind changes of the table", c, full)
	c.Put(l[2], 20)
	c.Put(api.Key{Kind: 9}, 21)
	c.Del(l[3])
	has(t, "the table, behind changes of the copy", x, map[api.Key]int{{}: 11, l[0]: 10, l[2]: 3, l[3]: 4, l[4]: 5})
	has(t, "the copy", c, map[api.Key]int{l[0]: 1, l[1]: 2, l[2]: 20, l[4]: 5, {Kind: 9}: 21})
	has(t, "the copy's copy", d, full)
}

func TestCopyOfNoneGoesItsOwnWay(t *testing.T) {
	x := New[int]()
	c := x.Copy()
	x.Put(api.Key{}, 1)
	has(t, "the copy", c, nil)
	c.Put(api.Key{Kind: 1}, 2)
	has(t, "the copy", c, map[api.Key]int{{Kind: 1}: 2})
	has(t, "the table", x, map[api.Key]int{{}: 1})
}

func TestCopyWithinAll(t *testing.T) {
	x := numbered(small())
	c := x.Copy()
	n := 0
	for k := range c.All() {
		x.Del(k)
		n++
	}
	if n != 5 || x.Len() != 0 || c.Len() != 5 {
		t.Errorf("%d steps, the table has %d, the copy %d", n, x.Len(), c.Len())
	}
}

// P5.1: nil, and tables that no call made

func TestNil(t *testing.T) {
	var x *Table[int]
	for _, k := range small() {
		x.Put(k, 1)
		lacks(t, "nil", x, k)
		if x.Del(k) {
			t.Errorf("something stood at %v of nil", k)
		}
	}
	has(t, "nil", x, nil)
	all := x.All()
	if all == nil {
		t.Fatal("All of nil is no iterator")
	}
	for k, v := range all {
		t.Errorf("All of nil goes over %v, %d", k, v)
	}
	c := x.Copy()
	if c == nil {
		t.Fatal("Copy of nil is nil")
	}
	has(t, "a copy of nil", c, nil)
	c.Put(small()[0], 4)
	has(t, "a copy of nil, with one put", c, map[api.Key]int{small()[0]: 4})
	has(t, "another copy of nil", x.Copy(), nil)
}

func TestTablesThatNoCallMade(t *testing.T) {
	k := small()[3]
	var x Table[int]
	has(t, "no call's table", &x, nil)
	lacks(t, "no call's table", &x, k)
	if x.Del(k) {
		t.Error("something stood in no call's table")
	}
	c := x.Copy()
	all := x.All()
	x.Put(k, 2)
	has(t, "no call's table, with one put", &x, map[api.Key]int{k: 2})
	has(t, "a copy of no call's table", c, nil)
	n := 0
	for range all {
		n++
	}
	if n != 1 || !x.Del(k) || x.Del(k) {
		t.Errorf("%d steps, or Del of no call's table", n)
	}
	has(t, "no call's table, with none left", &x, nil)
}

// P5.1 as a whole

func TestManyCalls(t *testing.T) {
	// The numbers hang on seed alone; a map and a sort of its own tell what each table must have.
	for seed := range uint32(20) {
		r := seed*2654435761 + 1
		next := func(n int) int {
			r = r*1664525 + 1013904223
			return int(r>>16) % n
		}
		keys := mixed(near())[:12+int(seed)]
		x, want := New[int](), map[api.Key]int{}
		for call := range 300 {
			k := keys[next(len(keys))]
			switch next(8) {
			case 0, 1, 2:
				x.Put(k, call)
				want[k] = call
			case 3, 4:
				_, was := want[k]
				delete(want, k)
				if x.Del(k) != was {
					t.Fatalf("seed %d, call %d: Del of %v is %v", seed, call, k, !was)
				}
			case 5:
				old, had := x, maps.Clone(want)
				x = x.Copy()
				x.Put(k, -call)
				want[k] = -call
				has(t, "what was copied", old, had)
			case 6:
				v, is := x.Get(k)
				if w, was := want[k]; v != w || is != was {
					t.Fatalf("seed %d, call %d: Get of %v is %d, %v; want %d, %v", seed, call, k, v, is, w, was)
				}
			case 7:
				has(t, "in between", x, want)
			}
		}
		has(t, "at the end", x, want)
	}
}
