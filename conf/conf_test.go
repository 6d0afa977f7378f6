package conf

import (
	"math"
	"reflect"
	"slices"
	"testing"

	"pledge/api"
	"pledge/key"
)

// far are numbers beyond all limits, among them some that would be right ones in fewer bits.
func far() []int {
	return []int{math.MinInt, math.MinInt + 1, -1 << 32, -1<<32 + 1, -65536, -256, -1, 1<<32 + 1, 1<<32 + 256, math.MaxInt - 1, math.MaxInt}
}

// sizes are all pairs of numbers of articles and warehouses that may be.
func sizes() [][2]int {
	var l [][2]int
	for skus := 1; skus <= 4; skus++ {
		for wares := 1; wares <= 4; wares++ {
			l = append(l, [2]int{skus, wares})
		}
	}
	return l
}

// fits is how many blocks n things of so many bytes take, told one by one: no thing is cut.
func fits(n, bytes, block int) int {
	if block < bytes {
		return 0
	}
	blocks, left := 0, 0
	for range n {
		if left < bytes {
			blocks, left = blocks+1, block
		}
		left -= bytes
	}
	return blocks
}

// blank are so many fields: how many blocks they take does not hang on what they are.
func blank(n int) []api.Decl {
	return make([]api.Decl, n)
}

// fault is what makes of a configuration that may be one that may not.
type fault struct {
	name  string
	spoil func(c *api.Config)
	err   api.Errno
}

// limit is a number of a configuration, and from where to where it may be.
type limit struct {
	name   string
	at     func(c *api.Config) *int
	lo, hi int
}

// limits are the numbers that have limits, as the chapter tells them.
func limits() []limit {
	return []limit{
		{"Skus", func(c *api.Config) *int { return &c.Skus }, 1, 4},
		{"Wares", func(c *api.Config) *int { return &c.Wares }, 1, 4},
		{"Sagas", func(c *api.Config) *int { return &c.Sagas }, 1, 8},
		{"Orders", func(c *api.Config) *int { return &c.Orders }, 1, 32},
		{"Retry", func(c *api.Config) *int { return &c.Retry }, 0, 4},
		{"Seg", func(c *api.Config) *int { return &c.Seg }, 64, 4096},
		{"Cap", func(c *api.Config) *int { return &c.Cap }, 1, 1048576},
		{"Block", func(c *api.Config) *int { return &c.Block }, 64, 4096},
		{"Blocks", func(c *api.Config) *int { return &c.Blocks }, 1, 1024},
	}
}

// faults are ways in which a configuration may not be, each by itself, in the order of the errors that are told.
func faults() []fault {
	var l []fault
	for _, n := range limits() {
		for _, x := range append(far(), n.lo-1, n.hi+1) {
			l = append(l, fault{n.name, func(c *api.Config) { *n.at(c) = x }, api.ErrArg})
		}
	}
	last := func(c *api.Config) *api.Decl { return &c.Fields[len(c.Fields)-1] }
	return append(l,
		fault{"no fields", func(c *api.Config) { c.Fields = nil }, api.ErrForm},
		fault{"one too few", func(c *api.Config) { c.Fields = c.Fields[:len(c.Fields)-1] }, api.ErrForm},
		fault{"none of the first key", func(c *api.Config) { c.Fields = c.Fields[1:] }, api.ErrForm},
		fault{"the last one twice", func(c *api.Config) { c.Fields = append(c.Fields, *last(c)) }, api.ErrForm},
		fault{"one of no key more", func(c *api.Config) { c.Fields = append(c.Fields, api.Decl{}) }, api.ErrForm},
		fault{"the first one twice, the last one never", func(c *api.Config) { last(c).Key = c.Fields[0].Key }, api.ErrForm},
		fault{"two have changed places", func(c *api.Config) { c.Fields[0], c.Fields[1] = c.Fields[1], c.Fields[0] }, api.ErrForm},
		fault{"falling", func(c *api.Config) { slices.Reverse(c.Fields) }, api.ErrForm},
		fault{"an article beyond", func(c *api.Config) { last(c).Key.Sku++ }, api.ErrForm},
		fault{"a warehouse of what is owed", func(c *api.Config) { last(c).Key.Ware = 1 }, api.ErrForm},
		fault{"a kind beyond", func(c *api.Config) { last(c).Key.Kind = 5 }, api.ErrForm},
		fault{"a kind below", func(c *api.Config) { c.Fields[0].Key.Kind = 0 }, api.ErrForm},
		fault{"Lo above Init", func(c *api.Config) { c.Fields[0].Lo = c.Fields[0].Init + 1 }, api.ErrBounds},
		fault{"Hi below Init", func(c *api.Config) { last(c).Hi = last(c).Init - 1 }, api.ErrBounds},
		fault{"Prio names one twice", func(c *api.Config) { c.Prio[0][0] = c.Prio[0][1] }, api.ErrDup},
		fault{"Prio names none that there is", func(c *api.Config) { c.Prio[0][1] = 255 }, api.ErrDup},
		fault{"Cap is Seg", func(c *api.Config) { c.Cap = c.Seg }, api.ErrLogFull},
		fault{"Cap is 1", func(c *api.Config) { c.Cap = 1 }, api.ErrLogFull},
		fault{"Blocks is 1 below Need", func(c *api.Config) { c.Blocks = Need(*c) - 1 }, api.ErrFull},
		fault{"Blocks is 1", func(c *api.Config) { c.Blocks = 1 }, api.ErrFull},
	)
}

// checked asks what is told of a configuration.
func checked(t *testing.T, what string, c api.Config, want api.Errno) {
	t.Helper()
	if e := Check(c); e != want {
		t.Errorf("%s: %d; want %d", what, e, want)
	}
}

// P6.1

func TestMost(t *testing.T) {
	cases := []struct{ sagas, orders, want int }{
		{0, 0, 12}, {1, 0, 355}, {0, 1, 330}, {1, 1, 673}, {8, 32, 12932}, {7, 31, 12271},
		{-1, 0, 12}, {0, -1, 12}, {-1, 1, 330}, {1, -1, 355}, {-8, -32, 12},
		{9, 0, 2756}, {0, 33, 10188}, {9, 33, 12932}, {-1, 99, 10188}, {99, -1, 2756},
		{math.MinInt, math.MaxInt, 10188}, {math.MaxInt, math.MinInt, 2756}, {math.MaxInt, math.MaxInt, 12932}, {math.MinInt, math.MinInt, 12},
		{1<<32 + 1, 0, 2756}, {0, 1<<32 + 1, 10188},
	}
	for _, c := range cases {
		if is := Most(c.sagas, c.orders); is != c.want {
			t.Errorf("Most(%d, %d) is %d; want %d", c.sagas, c.orders, is, c.want)
		}
	}
	for sagas := 0; sagas <= 8; sagas++ {
		for orders := 0; orders <= 32; orders++ {
			if is := Most(sagas, orders); is != 12+343*sagas+318*orders {
				t.Errorf("Most(%d, %d) is %d", sagas, orders, is)
			}
		}
	}
}

func TestHeads(t *testing.T) {
	for _, n := range []int{0, 1, 2, 3, 4, 5, 15, 16, 17, 39, 40, 41, 300} {
		for block := -40; block <= 4200; block++ {
			c := api.Config{Fields: blank(n), Block: block}
			if is := Heads(c); is != fits(n, 16, block) {
				t.Fatalf("the heads of %d fields in blocks of %d are %d; want %d", n, block, is, fits(n, 16, block))
			}
		}
	}
}

func TestHeadsOfEdges(t *testing.T) {
	cases := []struct{ fields, block, want int }{
		{4, 64, 1}, {4, 63, 2}, {4, 48, 2}, {4, 32, 2}, {4, 31, 4}, {4, 16, 4}, {4, 15, 0}, {4, 1, 0}, {4, 0, 0}, {4, -1, 0}, {4, -16, 0}, {4, -64, 0},
		{40, 64, 10}, {40, 256, 3}, {40, 4096, 1}, {40, 640, 1}, {40, 639, 2}, {16, 256, 1}, {17, 256, 2},
		{4, math.MaxInt, 1}, {4, math.MinInt, 0}, {0, math.MaxInt, 0}, {0, 256, 0},
	}
	for _, x := range cases {
		if is := Heads(api.Config{Fields: blank(x.fields), Block: x.block}); is != x.want {
			t.Errorf("the heads of %d fields in blocks of %d are %d; want %d", x.fields, x.block, is, x.want)
		}
	}
}

func TestAreaAndNeed(t *testing.T) {
	for _, n := range []int{0, 4, 16, 40} {
		for block := -40; block <= 4200; block++ {
			for _, x := range [][2]int{{0, 0}, {1, 1}, {8, 32}, {3, 17}} {
				c := api.Config{Fields: blank(n), Sagas: x[0], Orders: x[1], Block: block}
				want := fits(n, 16, block) + fits(12+343*x[0]+318*x[1], 1, block)
				if is := Area(c); is != want {
					t.Fatalf("%d fields, %v, blocks of %d: Area is %d; want %d", n, x, block, is, want)
				}
				if is := Need(c); is != 2*want+2 {
					t.Fatalf("%d fields, %v, blocks of %d: Need is %d; want %d", n, x, block, is, 2*want+2)
				}
			}
		}
	}
}

func TestAreaOfEdges(t *testing.T) {
	cases := []struct{ fields, sagas, orders, block, area int }{
		{4, 8, 32, 256, 52}, {40, 8, 32, 64, 213}, {40, 8, 32, 4096, 5}, {4, 8, 32, 12932, 2}, {4, 8, 32, 12931, 3},
		{4, 0, 0, 12, 1}, {4, 0, 0, 11, 2}, {4, 0, 0, 16, 5}, {4, 0, 0, 1, 12}, {0, 8, 32, 1, 12932},
		{4, 99, 99, 256, 52}, {4, -99, -99, 256, 2}, {4, math.MaxInt, math.MinInt, 256, 12}, {4, math.MinInt, math.MaxInt, 256, 41},
		{4, 8, 32, 0, 0}, {4, 8, 32, -1, 0}, {4, 8, 32, -256, 0}, {4, 8, 32, math.MinInt, 0}, {4, 8, 32, math.MaxInt, 2},
	}
	for _, x := range cases {
		c := api.Config{Fields: blank(x.fields), Sagas: x.sagas, Orders: x.orders, Block: x.block}
		if is := Area(c); is != x.area {
			t.Errorf("Area of %v is %d", x, is)
		}
		if is := Need(c); is != 2*x.area+2 {
			t.Errorf("Need of %v is %d", x, is)
		}
	}
}

func TestExample(t *testing.T) {
	c := Plain(1, 1, 5, 9)
	if len(c.Fields) != 4 || Heads(c) != 1 || Most(8, 32) != 12932 || Area(c) != 52 || Need(c) != 106 {
		t.Error(len(c.Fields), Heads(c), Most(8, 32), Area(c), Need(c))
	}
}

// P6.2

func TestCheckAtTheLimits(t *testing.T) {
	for _, n := range sizes() {
		checked(t, "numbers of articles and warehouses", Plain(n[0], n[1], 5, 9), api.OK)
	}
	for _, n := range limits()[2:] {
		for _, x := range []int{n.lo, n.lo + 1, n.hi - 1, n.hi} {
			c := Plain(2, 3, 5, 9)
			*n.at(&c) = x
			want := api.OK
			switch {
			case n.name == "Cap" && x <= 256: // within its limits, but not above Seg
				want = api.ErrLogFull
			case n.name == "Blocks" && x < 106: // likewise, but below Need
				want = api.ErrFull
			case n.name == "Block": // small ones need more of them
				c.Blocks = 1024
			}
			if e := Check(c); e != want {
				t.Errorf("%s of %d: %d; want %d", n.name, x, e, want)
			}
		}
	}
}

func TestCheckOfTheLeastAndTheGreatest(t *testing.T) {
	c := Plain(4, 4, math.MaxInt64, math.MaxInt64)
	c.Sagas, c.Orders, c.Retry, c.Seg, c.Cap, c.Block, c.Blocks = 8, 32, 4, 4096, 1<<20, 4096, 1024
	checked(t, "the greatest of all", c, api.OK)
	c.Block = 64
	checked(t, "the most blocks that are needed", c, api.OK)
	c = Plain(1, 1, 0, 0)
	c.Sagas, c.Orders, c.Retry, c.Seg, c.Cap, c.Block = 1, 1, 0, 64, 65, 64
	c.Blocks = Need(c)
	checked(t, "the least of all", c, api.OK)
	if c.Blocks != 26 {
		t.Errorf("the least of all needs %d blocks", c.Blocks)
	}
}

func TestCheckOfOneFault(t *testing.T) {
	for _, n := range [][2]int{{1, 2}, {2, 3}, {4, 4}} {
		for _, f := range faults() {
			c := Plain(n[0], n[1], 5, 9)
			f.spoil(&c)
			checked(t, f.name, c, f.err)
		}
	}
}

func TestCheckTellsTheFirstError(t *testing.T) {
	order := []api.Errno{api.ErrArg, api.ErrForm, api.ErrBounds, api.ErrDup, api.ErrLogFull, api.ErrFull}
	l := faults()
	for i, first := range l {
		for _, then := range l[i+1:] {
			if first.err == then.err && first.err != api.ErrArg {
				continue
			}
			if slices.Index(order, first.err) > slices.Index(order, then.err) {
				t.Fatal("the faults are not in order")
			}
			c := Plain(3, 2, 5, 9)
			// The later one first, as it asks what the other one spoils.
			then.spoil(&c)
			first.spoil(&c)
			if e := Check(c); e != first.err {
				t.Errorf("%s, and %s: %d; want %d", first.name, then.name, e, first.err)
			}
		}
	}
}

func TestCheckOfOtherKeys(t *testing.T) {
	for _, n := range sizes() {
		for _, m := range sizes() {
			c := Plain(n[0], n[1], 5, 9)
			c.Fields = Plain(m[0], m[1], 5, 9).Fields
			want := api.ErrForm
			if n == m {
				want = api.OK
			}
			if e := Check(c); e != want {
				t.Errorf("of %v with the fields of %v: %d; want %d", n, m, e, want)
			}
		}
	}
}

func TestCheckOfEachField(t *testing.T) {
	for i, k := range key.All(3, 2) {
		c := Plain(3, 2, 5, 9)
		for _, other := range []api.Key{{Kind: k.Kind + 1, Sku: k.Sku, Ware: k.Ware}, {Kind: k.Kind, Sku: k.Sku + 1, Ware: k.Ware}, {Kind: k.Kind, Sku: k.Sku, Ware: k.Ware + 1}} {
			c.Fields[i].Key = other
			checked(t, "another key at "+key.Text(k), c, api.ErrForm)
		}
		c.Fields[i].Key = k
		checked(t, "the key again at "+key.Text(k), c, api.OK)
		c.Fields[i].Lo = c.Fields[i].Init + 1
		checked(t, "Lo above Init at "+key.Text(k), c, api.ErrBounds)
		c.Fields[i].Lo, c.Fields[i].Hi = c.Fields[i].Init, c.Fields[i].Init
		checked(t, "all the same at "+key.Text(k), c, api.OK)
		c.Fields[i].Lo, c.Fields[i].Hi = -9, c.Fields[i].Init-1
		checked(t, "Init above Hi at "+key.Text(k), c, api.ErrBounds)
	}
}

func TestCheckOfBounds(t *testing.T) {
	const least, greatest = math.MinInt64, math.MaxInt64
	for i := range key.Count(2, 2) {
		for _, lo := range []int64{least, least + 1, -7, -1, 0, 1, 7, greatest - 1, greatest} {
			for _, init := range []int64{least, least + 1, -7, -1, 0, 1, 7, greatest - 1, greatest} {
				for _, hi := range []int64{least, least + 1, -7, -1, 0, 1, 7, greatest - 1, greatest} {
					c := Plain(2, 2, 5, 9)
					c.Fields[i].Lo, c.Fields[i].Init, c.Fields[i].Hi = lo, init, hi
					want := api.OK
					if !slices.IsSorted([]int64{lo, init, hi}) {
						want = api.ErrBounds
					}
					if e := Check(c); e != want {
						t.Fatalf("%d, %d, %d: %d; want %d", lo, init, hi, e, want)
					}
				}
			}
		}
	}
}

// rows are all rows of Prio of these numbers.
func rows(l ...uint8) [][4]uint8 {
	var all [][4]uint8
	for _, a := range l {
		for _, b := range l {
			for _, c := range l {
				for _, d := range l {
					all = append(all, [4]uint8{a, b, c, d})
				}
			}
		}
	}
	return all
}

func TestCheckOfPrio(t *testing.T) {
	for _, n := range sizes() {
		c := Plain(n[0], n[1], 5, 9)
		for sku := range 4 {
			was := c.Prio[sku]
			for _, row := range rows(0, 1, 2, 3, 4, 5, 255) {
				c.Prio[sku] = row
				named := slices.Clone(row[:n[1]])
				slices.Sort(named)
				want := api.OK
				// What stands behind the first Wares places, and behind the articles, plays no part.
				if sku < n[0] && !slices.Equal(named, []uint8{0, 1, 2, 3}[:n[1]]) {
					want = api.ErrDup
				}
				if e := Check(c); e != want {
					t.Fatalf("of %v, article %d, %v: %d; want %d", n, sku, row, e, want)
				}
			}
			c.Prio[sku] = was
		}
	}
}

func TestCheckOfEachByteOfPrio(t *testing.T) {
	for x := range 256 {
		c := Plain(4, 4, 5, 9)
		c.Prio[3][2] = uint8(x)
		want := api.ErrDup
		if x == 2 {
			want = api.OK
		}
		if e := Check(c); e != want {
			t.Errorf("%d: %d; want %d", x, e, want)
		}
	}
}

func TestCheckOfTheLog(t *testing.T) {
	for _, x := range []struct {
		seg, cap int
		want     api.Errno
	}{
		{64, 65, api.OK}, {64, 64, api.ErrLogFull}, {64, 63, api.ErrLogFull}, {64, 1, api.ErrLogFull},
		{4096, 4097, api.OK}, {4096, 4096, api.ErrLogFull}, {4096, 4095, api.ErrLogFull}, {4096, 1048576, api.OK}, {64, 1048576, api.OK},
	} {
		c := Plain(2, 2, 5, 9)
		c.Seg, c.Cap = x.seg, x.cap
		if e := Check(c); e != x.want {
			t.Errorf("segments of %d, a log of %d: %d; want %d", x.seg, x.cap, e, x.want)
		}
	}
}

func TestCheckOfBlocks(t *testing.T) {
	for _, n := range sizes() {
		for _, block := range []int{64, 65, 255, 256, 4096} {
			for _, x := range [][2]int{{1, 1}, {8, 32}} {
				c := Plain(n[0], n[1], 5, 9)
				c.Block, c.Sagas, c.Orders = block, x[0], x[1]
				need := 2*(fits(len(c.Fields), 16, block)+fits(12+343*x[0]+318*x[1], 1, block)) + 2
				for blocks, want := range map[int]api.Errno{1: api.ErrFull, need - 1: api.ErrFull, need: api.OK, need + 1: api.OK, 1024: api.OK} {
					c.Blocks = blocks
					if e := Check(c); e != want {
						t.Errorf("%d blocks of %d where %d are needed: %d; want %d", blocks, block, need, e, want)
					}
				}
			}
		}
	}
}

func TestNothingIsChanged(t *testing.T) {
	for _, f := range append(faults(), fault{"none", func(*api.Config) {}, api.OK}) {
		c, was := Plain(2, 3, 5, 9), Plain(2, 3, 5, 9)
		f.spoil(&c)
		f.spoil(&was)
		Check(c)
		Need(c)
		if d, ok := Decl(c, api.Key{Kind: 1}); ok {
			d.Hi++
		}
		if !reflect.DeepEqual(c, was) {
			t.Errorf("%s: what was handed in has changed", f.name)
		}
	}
}

func TestOfNoConfiguration(t *testing.T) {
	var c api.Config
	if Heads(c) != 0 || Area(c) != 0 || Need(c) != 2 {
		t.Error(Heads(c), Area(c), Need(c))
	}
	checked(t, "a zero one", c, api.ErrArg)
	if d, ok := Decl(c, api.Key{}); ok || d != (api.Decl{}) {
		t.Error(d, ok)
	}
}

// P6.3

func TestPlain(t *testing.T) {
	want := api.Config{
		Skus: 2, Wares: 1,
		Fields: []api.Decl{
			{Key: api.Key{Kind: 1}, Init: 5, Hi: 9}, {Key: api.Key{Kind: 1, Sku: 1}, Init: 5, Hi: 9},
			{Key: api.Key{Kind: 2}, Hi: 9}, {Key: api.Key{Kind: 2, Sku: 1}, Hi: 9},
			{Key: api.Key{Kind: 3}, Hi: 9}, {Key: api.Key{Kind: 3, Sku: 1}, Hi: 9},
			{Key: api.Key{Kind: 4}, Hi: 9}, {Key: api.Key{Kind: 4, Sku: 1}, Hi: 9},
		},
		Sagas: 8, Orders: 32, Retry: 2, Seg: 256, Cap: 65536, Block: 256, Blocks: 106,
	}
	if c := Plain(2, 1, 5, 9); !reflect.DeepEqual(c, want) {
		t.Errorf("%+v", c)
	}
}

// plain is what Plain is to make of numbers that count as they are.
func plain(skus, wares int, init, hi int64) api.Config {
	c := api.Config{Skus: skus, Wares: wares, Sagas: 8, Orders: 32, Retry: 2, Seg: 256, Cap: 65536, Block: 256}
	for _, k := range key.All(skus, wares) {
		d := api.Decl{Key: k, Hi: hi}
		if k.Kind == 1 {
			d.Init = init
		}
		c.Fields = append(c.Fields, d)
	}
	for sku := range skus {
		copy(c.Prio[sku][:wares], []uint8{0, 1, 2, 3})
	}
	// The tables are 12932 bytes, as there may be the most of all: 51 blocks.
	c.Blocks = 2*((len(c.Fields)+15)/16+51) + 2
	return c
}

func TestPlainOfEachSize(t *testing.T) {
	l := append(far(), 0, 1, 2, 3, 4, 5, 6, 255, 256, 257)
	for _, skus := range l {
		for _, wares := range l {
			want := plain(min(max(skus, 1), 4), min(max(wares, 1), 4), 5, 9)
			if c := Plain(skus, wares, 5, 9); !reflect.DeepEqual(c, want) {
				t.Errorf("Plain(%d, %d, 5, 9) is %+v; want %+v", skus, wares, c, want)
			}
		}
	}
}

func TestPlainOfEachBound(t *testing.T) {
	const least, greatest = math.MinInt64, math.MaxInt64
	cases := []struct{ init, hi, isInit, isHi int64 }{
		{5, 9, 5, 9}, {9, 9, 9, 9}, {0, 0, 0, 0}, {0, 9, 0, 9}, {0, greatest, 0, greatest}, {greatest, greatest, greatest, greatest},
		{10, 9, 10, 10}, {5, 0, 5, 5}, {5, -1, 5, 5}, {5, least, 5, 5}, {greatest, 0, greatest, greatest}, {greatest, least, greatest, greatest}, {greatest, greatest - 1, greatest, greatest},
		{-1, 9, 0, 9}, {-1, 0, 0, 0}, {least, greatest, 0, greatest}, {least, 1, 0, 1},
		{0, -1, 0, 0}, {-5, -3, 0, 0}, {-3, -5, 0, 0}, {-1, -1, 0, 0}, {least, least, 0, 0}, {least, -1, 0, 0},
	}
	for _, x := range cases {
		want := plain(2, 3, x.isInit, x.isHi)
		if c := Plain(2, 3, x.init, x.hi); !reflect.DeepEqual(c, want) {
			t.Errorf("Plain(2, 3, %d, %d) is %+v; want %+v", x.init, x.hi, c, want)
		}
	}
}

func TestPlainIsAnew(t *testing.T) {
	c := Plain(2, 3, 5, 9)
	clear(c.Fields)
	c.Prio[1][2] = 7
	if c := Plain(2, 3, 5, 9); !reflect.DeepEqual(c, plain(2, 3, 5, 9)) {
		t.Errorf("the second time: %+v", c)
	}
}

// P6.4

func TestDecl(t *testing.T) {
	for _, n := range sizes() {
		c := Plain(n[0], n[1], 5, 9)
		for i := range c.Fields {
			c.Fields[i].Lo = int64(i) - 99
		}
		for kind := range 6 {
			for sku := range 6 {
				for ware := range 6 {
					k := api.Key{Kind: uint8(kind), Sku: uint8(sku), Ware: uint8(ware)}
					at, there := key.Place(n[0], n[1], k)
					var want api.Decl
					if there {
						want = c.Fields[at]
					}
					if d, ok := Decl(c, k); ok != there || d != want {
						t.Errorf("of %v, %v: %v, %v; want %v, %v", n, k, d, ok, want, there)
					}
				}
			}
		}
	}
}

func TestDeclIsTheFirstOne(t *testing.T) {
	a, b, odd := api.Key{Kind: 1}, api.Key{Kind: 4, Sku: 1}, api.Key{Kind: 255, Sku: 254, Ware: 253}
	c := api.Config{Fields: []api.Decl{
		{Key: b, Lo: 1, Init: 2, Hi: 3}, {Key: a, Lo: 4, Init: 5, Hi: 6}, {Key: b, Lo: 7, Init: 8, Hi: 9},
		{Key: odd, Lo: 3, Init: 2, Hi: 1}, {Key: a}, {Key: odd, Lo: 6, Init: 6, Hi: 6},
	}}
	for _, want := range []api.Decl{c.Fields[0], c.Fields[1], c.Fields[3]} {
		if d, ok := Decl(c, want.Key); !ok || d != want {
			t.Errorf("of %v: %v, %v", want.Key, d, ok)
		}
	}
	for _, k := range []api.Key{{}, {Kind: 4}, {Kind: 1, Sku: 1}, {Kind: 4, Sku: 1, Ware: 1}, {Kind: 1, Ware: 1}, {Kind: 255, Sku: 254}, {Kind: 0, Sku: 254, Ware: 253}} {
		if d, ok := Decl(c, k); ok || d != (api.Decl{}) {
			t.Errorf("of %v: %v, %v", k, d, ok)
		}
	}
}

func TestDeclOfAZeroKey(t *testing.T) {
	c := api.Config{Fields: []api.Decl{{Lo: 1}, {Lo: 2}}}
	if d, ok := Decl(c, api.Key{}); !ok || d != (api.Decl{Lo: 1}) {
		t.Errorf("%v, %v", d, ok)
	}
	if d, ok := Decl(api.Config{Fields: []api.Decl{{}}}, api.Key{}); !ok || d != (api.Decl{}) {
		t.Errorf("%v, %v", d, ok)
	}
}

// P6.5

func TestPlainMayBe(t *testing.T) {
	bounds := []int64{math.MinInt64, -9, -1, 0, 1, 9, math.MaxInt64 - 1, math.MaxInt64}
	numbers := append(far(), 0, 1, 2, 3, 4, 5)
	for _, skus := range numbers {
		for _, wares := range numbers {
			for _, init := range bounds {
				for _, hi := range bounds {
					if e := Check(Plain(skus, wares, init, hi)); e != api.OK {
						t.Fatalf("Plain(%d, %d, %d, %d): %d", skus, wares, init, hi, e)
					}
				}
			}
		}
	}
}
