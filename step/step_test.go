package step

import (
	"math"
	"slices"
	"testing"

	"pledge/api"
	"pledge/key"
	"pledge/op"
)

const (
	least    = math.MinInt64
	greatest = math.MaxInt64
)

// stock, held, out and owed are keys of those kinds.
func stock(sku, ware uint8) api.Key { return api.Key{Kind: 1, Sku: sku, Ware: ware} }
func held(sku, ware uint8) api.Key  { return api.Key{Kind: 2, Sku: sku, Ware: ware} }
func out(sku uint8) api.Key         { return api.Key{Kind: 3, Sku: sku} }
func owed(sku uint8) api.Key        { return api.Key{Kind: 4, Sku: sku} }

// add is an addition.
func add(k api.Key, d int64) api.Op { return api.Op{Key: k, Delta: d} }

// step is a step of those items.
func step(tag, ware uint8, items ...api.Line) api.Step {
	return api.Step{Tag: tag, Ware: ware, Items: items}
}

// line is an item.
func line(sku uint8, qty int64) api.Line { return api.Line{Sku: sku, Qty: qty} }

// tags are all tags, and what is none.
func tags() []uint8 {
	var l []uint8
	for tag := range 256 {
		l = append(l, uint8(tag))
	}
	return l
}

// itemLists are lists of items of which some may be and some may not.
func itemLists() [][]api.Line {
	lists := [][]api.Line{
		nil,
		{},
		{line(0, 1), line(1, 1), line(2, 1), line(3, 1)}, // one more than may be
		{line(0, 1), line(1, 2), line(2, 3), line(3, 4), line(4, 5)},
		{line(0, 0), line(1, 1), line(2, 1), line(3, 1)},
	}
	skus := []uint8{0, 1, 2, 3, 4, 127, 255}
	for _, a := range skus {
		lists = append(lists, []api.Line{line(a, 1)})
		for _, b := range skus {
			lists = append(lists, []api.Line{line(a, 1), line(b, 9)})
			for _, c := range skus {
				lists = append(lists, []api.Line{line(a, greatest), line(b, 1), line(c, 2)})
			}
		}
	}
	for _, qty := range []int64{greatest, 1, 0, -1, -greatest, least} {
		lists = append(lists, []api.Line{line(0, qty)}, []api.Line{line(0, 1), line(2, qty)}, []api.Line{line(0, 1), line(1, qty), line(3, 1)}, []api.Line{line(1, qty), line(2, 2)})
	}
	return lists
}

// numbers are how many articles, or warehouses, somebody may ask for.
func numbers() []int {
	return []int{math.MinInt, -1, 0, 1, 2, 3, 4, 5, 6, 255, 256, 257, 260, math.MaxInt}
}

// mayBe is Good by the chapter's words.
func mayBe(skus, wares int, s api.Step) bool {
	may := skus >= 1 && skus <= 4 && wares >= 1 && wares <= 4
	may = may && s.Tag >= 1 && s.Tag <= 8
	may = may && int(s.Ware) < wares && (s.Ware == 0 || s.Tag < 7)
	may = may && len(s.Items) >= 1 && len(s.Items) <= 3
	last := -1
	for _, item := range s.Items {
		may = may && int(item.Sku) > last && int(item.Sku) < skus && item.Qty >= 1
		last = int(item.Sku)
	}
	return may
}

// goodSteps are steps of each tag that may be, of 4 articles and 3 warehouses.
func goodSteps() []api.Step {
	var l []api.Step
	for _, tag := range tags() {
		for ware := range uint8(4) {
			for _, items := range itemLists() {
				if s := step(tag, ware, items...); mayBe(4, 3, s) {
					l = append(l, s)
				}
			}
		}
	}
	return l
}

// wantOps is Ops by the chapter's words.
func wantOps(s api.Step) []api.Op {
	var l []api.Op
	for _, item := range s.Items {
		if item.Qty < 1 {
			continue
		}
		k, q := item.Sku, item.Qty
		switch s.Tag {
		case 1:
			l = append(l, add(stock(k, s.Ware), -q), add(held(k, s.Ware), q))
		case 2:
			l = append(l, add(held(k, s.Ware), -q), add(stock(k, s.Ware), q))
		case 3:
			l = append(l, add(held(k, s.Ware), -q), add(out(k), q))
		case 4:
			l = append(l, add(out(k), -q), add(stock(k, s.Ware), q))
		case 5:
			l = append(l, add(stock(k, s.Ware), q))
		case 6:
			l = append(l, add(stock(k, s.Ware), -q))
		case 7:
			l = append(l, add(owed(k), q))
		case 8:
			l = append(l, add(owed(k), -q))
		}
	}
	return l
}

// wantUndo is what undoes additions: the last one first, each the other way.
func wantUndo(l []api.Op) []api.Op {
	var back []api.Op
	for i := len(l) - 1; i >= 0; i-- {
		back = append(back, add(l[i].Key, -l[i].Delta))
	}
	return back
}

// told asks for a list of additions.
func told(t *testing.T, what string, s api.Step, l, want []api.Op) {
	t.Helper()
	if !slices.Equal(l, want) {
		t.Errorf("%s of %v: %v; want %v", what, s, l, want)
	}
}

// net is what additions come to.
func net(t *testing.T, l ...[]api.Op) []api.Op {
	t.Helper()
	sum, ok := op.Net(slices.Concat(l...))
	if !ok {
		t.Errorf("%v come to nothing that has 64 bits", l)
	}
	return sum
}

// P12.1

func TestGood(t *testing.T) {
	one := line(0, 1)
	cases := []struct {
		what        string
		skus, wares int
		s           api.Step
		want        bool
	}{
		{"the least one", 1, 1, step(api.TgTake, 0, one), true},
		{"the greatest one", 4, 4, step(api.TgDraw, 3, line(1, greatest), line(2, greatest), line(3, greatest)), true},
		{"no step", 4, 4, api.Step{}, false},
		{"no article", 0, 1, step(api.TgTake, 0, one), false},
		{"no warehouse", 1, 0, step(api.TgTake, 0, one), false},
		{"more articles than may be", 5, 4, step(api.TgTake, 0, one), false},
		{"more warehouses than may be", 4, 5, step(api.TgTake, 0, one), false},
		{"no warehouse, and nothing of it", 1, 0, step(api.TgOwe, 0, one), false},
		{"more warehouses than may be, and nothing of them", 1, 5, step(api.TgPay, 0, one), false},
		{"no tag", 4, 4, step(0, 0, one), false},
		{"the last tag", 4, 4, step(api.TgPay, 0, one), true},
		{"beyond the last tag", 4, 4, step(9, 0, one), false},
		{"far beyond the last tag", 4, 4, step(255, 0, one), false},
		{"the last warehouse", 4, 2, step(api.TgPut, 1, one), true},
		{"beyond the last warehouse", 4, 2, step(api.TgPut, 2, one), false},
		{"a warehouse of what comes back", 4, 2, step(api.TgBack, 1, one), true},
		{"no such warehouse of what comes back", 4, 2, step(api.TgBack, 2, one), false},
		{"no such warehouse of what is sent", 4, 2, step(api.TgSend, 2, one), false},
		{"a warehouse of what is owed", 4, 2, step(api.TgOwe, 1, one), false},
		{"a warehouse of what is paid", 4, 2, step(api.TgPay, 1, one), false},
		{"no items", 4, 4, step(api.TgTake, 0), false},
		{"as many items as may be", 4, 4, step(api.TgTake, 0, line(0, 1), line(1, 1), line(3, 1)), true},
		{"more items than may be", 4, 4, step(api.TgTake, 0, line(0, 1), line(1, 1), line(2, 1), line(3, 1)), false},
		{"an article twice", 4, 4, step(api.TgTake, 0, line(2, 1), line(2, 1)), false},
		{"an article twice, not next to itself", 4, 4, step(api.TgTake, 0, line(1, 1), line(2, 1), line(1, 1)), false},
		{"articles that fall", 4, 4, step(api.TgTake, 0, line(1, 1), line(0, 1)), false},
		{"the last article", 3, 4, step(api.TgTake, 0, line(2, 1)), true},
		{"beyond the last article", 3, 4, step(api.TgTake, 0, line(0, 1), line(3, 1)), false},
		{"beyond the last article of what is owed", 3, 4, step(api.TgOwe, 0, line(3, 1)), false},
		{"none of an article", 4, 4, step(api.TgTake, 0, line(0, 0)), false},
		{"none of the last article", 4, 4, step(api.TgTake, 0, line(0, 1), line(1, 1), line(2, 0)), false},
		{"less than none", 4, 4, step(api.TgPut, 0, line(0, -1)), false},
		{"the least number", 4, 4, step(api.TgPut, 0, line(0, least)), false},
	}
	for _, c := range cases {
		if is := Good(c.skus, c.wares, c.s); is != c.want {
			t.Errorf("%s: Good(%d, %d, %v) is %t", c.what, c.skus, c.wares, c.s, is)
		}
	}
}

func TestGoodGoesByTheWords(t *testing.T) {
	seen := map[bool]int{}
	for _, tag := range []uint8{0, 1, 2, 3, 4, 5, 6, 7, 8, 9, 128, 255} {
		for _, ware := range []uint8{0, 1, 2, 3, 4, 127, 255} {
			for _, items := range itemLists() {
				s := step(tag, ware, items...)
				for _, skus := range numbers() {
					for _, wares := range numbers() {
						want := mayBe(skus, wares, s)
						seen[want]++
						if is := Good(skus, wares, s); is != want {
							t.Fatalf("Good(%d, %d, %v) is %t", skus, wares, s, is)
						}
					}
				}
			}
		}
	}
	if seen[true] < 1000 || seen[false] < 1000 {
		t.Errorf("good and not: %v", seen)
	}
}

func TestGoodOfEachTag(t *testing.T) {
	for _, tag := range tags() {
		if is := Good(4, 4, step(tag, 0, line(3, 1))); is != (tag >= api.TgTake && tag <= api.TgPay) {
			t.Errorf("of tag %d: %t", tag, is)
		}
	}
}

func TestGoodOfVeryManyItems(t *testing.T) {
	var items []api.Line
	for sku := range 256 {
		items = append(items, line(uint8(sku), 1))
	}
	for _, l := range [][]api.Line{items, slices.Repeat(items, 1<<12)} {
		if Good(4, 4, step(api.TgTake, 0, l...)) {
			t.Errorf("%d items are good", len(l))
		}
	}
}

// P12.2

func TestOps(t *testing.T) {
	items := []api.Line{line(0, 4), line(3, 1)}
	cases := []struct {
		s    api.Step
		want []api.Op
	}{
		{step(api.TgTake, 2, items...), []api.Op{add(stock(0, 2), -4), add(held(0, 2), 4), add(stock(3, 2), -1), add(held(3, 2), 1)}},
		{step(api.TgFree, 2, items...), []api.Op{add(held(0, 2), -4), add(stock(0, 2), 4), add(held(3, 2), -1), add(stock(3, 2), 1)}},
		{step(api.TgSend, 2, items...), []api.Op{add(held(0, 2), -4), add(out(0), 4), add(held(3, 2), -1), add(out(3), 1)}},
		{step(api.TgBack, 2, items...), []api.Op{add(out(0), -4), add(stock(0, 2), 4), add(out(3), -1), add(stock(3, 2), 1)}},
		{step(api.TgPut, 2, items...), []api.Op{add(stock(0, 2), 4), add(stock(3, 2), 1)}},
		{step(api.TgDraw, 2, items...), []api.Op{add(stock(0, 2), -4), add(stock(3, 2), -1)}},
		{step(api.TgOwe, 0, items...), []api.Op{add(owed(0), 4), add(owed(3), 1)}},
		{step(api.TgPay, 0, items...), []api.Op{add(owed(0), -4), add(owed(3), -1)}},
		// The chapter's example.
		{step(api.TgSend, 1, line(0, 3)), []api.Op{add(held(0, 1), -3), add(out(0), 3)}},
		// What is owed is of no warehouse, whatever the step says.
		{step(api.TgOwe, 3, line(1, 2)), []api.Op{add(owed(1), 2)}},
		{step(api.TgPay, 255, line(1, 2)), []api.Op{add(owed(1), -2)}},
		// Items that no good step has.
		{step(api.TgPut, 200, line(9, 1), line(2, 5), line(2, 6)), []api.Op{add(stock(9, 200), 1), add(stock(2, 200), 5), add(stock(2, 200), 6)}},
		{step(api.TgTake, 1, line(255, greatest)), []api.Op{add(stock(255, 1), -greatest), add(held(255, 1), greatest)}},
		{step(api.TgPay, 0, line(0, 0), line(1, 2), line(2, -1), line(3, least)), []api.Op{add(owed(1), -2)}},
		{step(api.TgDraw, 0, line(0, least), line(0, 1), line(0, -greatest), line(0, 2)), []api.Op{add(stock(0, 0), -1), add(stock(0, 0), -2)}},
		// No additions.
		{step(api.TgTake, 0, line(1, 0)), nil},
		{step(api.TgTake, 0), nil},
		{step(0, 0, items...), nil},
		{step(9, 0, items...), nil},
		{step(255, 0, items...), nil},
		{api.Step{}, nil},
	}
	for _, c := range cases {
		told(t, "Ops", c.s, Ops(c.s), c.want)
		told(t, "Undo", c.s, Undo(c.s), wantUndo(c.want))
	}
}

func TestUndo(t *testing.T) {
	cases := []struct {
		s    api.Step
		want []api.Op
	}{
		{step(api.TgTake, 2, line(0, 4), line(3, 1)), []api.Op{add(held(3, 2), -1), add(stock(3, 2), 1), add(held(0, 2), -4), add(stock(0, 2), 4)}},
		{step(api.TgPut, 1, line(0, 4), line(1, 5), line(2, 6)), []api.Op{add(stock(2, 1), -6), add(stock(1, 1), -5), add(stock(0, 1), -4)}},
		{step(api.TgDraw, 0, line(0, greatest)), []api.Op{add(stock(0, 0), greatest)}},
		{step(api.TgOwe, 0, line(0, greatest)), []api.Op{add(owed(0), -greatest)}},
		{step(api.TgSend, 0, line(1, 0), line(2, -3)), nil},
		{step(10, 0, line(1, 1)), nil},
	}
	for _, c := range cases {
		told(t, "Undo", c.s, Undo(c.s), c.want)
	}
}

func TestOpsAndUndoGoByTheWords(t *testing.T) {
	for _, tag := range tags() {
		for _, ware := range []uint8{0, 1, 3, 4, 255} {
			for _, items := range itemLists() {
				s := step(tag, ware, items...)
				want := wantOps(s)
				told(t, "Ops", s, Ops(s), want)
				told(t, "Undo", s, Undo(s), wantUndo(want))
			}
		}
	}
}

func TestOpsOfVeryManyItems(t *testing.T) {
	items := slices.Repeat([]api.Line{line(1, 2), line(0, 0), line(3, greatest)}, 1<<14)
	for tag := range uint8(10) {
		s := step(tag, 1, items...)
		want := wantOps(s)
		if !slices.Equal(Ops(s), want) || !slices.Equal(Undo(s), wantUndo(want)) {
			t.Errorf("of tag %d: %d additions, and %d back", tag, len(Ops(s)), len(Undo(s)))
		}
	}
}

// P12.3

func TestWord(t *testing.T) {
	want := []string{"", "take", "free", "send", "back", "put", "draw", "owe", "pay"}
	for _, tag := range tags() {
		w := ""
		if int(tag) < len(want) {
			w = want[tag]
		}
		if s := Word(tag); s != w {
			t.Errorf("of tag %d: %q; want %q", tag, s, w)
		}
	}
}

func TestSame(t *testing.T) {
	some := step(api.TgTake, 2, line(0, 4), line(3, 1), line(3, greatest))
	steps := []api.Step{
		{},
		{Tag: api.TgTake},
		{Ware: 2},
		step(0, 0, line(0, 0)),
		step(0, 0, line(0, 0), line(0, 0)),
		some,
		step(api.TgFree, 2, some.Items...),
		step(255, 2, some.Items...),
		step(api.TgTake, 1, some.Items...),
		step(api.TgTake, 255, some.Items...),
		step(api.TgTake, 2, some.Items[:2]...),
		step(api.TgTake, 2, some.Items[1:]...),
		step(api.TgTake, 2, line(3, 1), line(0, 4), line(3, greatest)),
		step(api.TgTake, 2, line(0, 4), line(3, greatest), line(3, 1)),
		step(api.TgTake, 2, append(slices.Clone(some.Items), line(0, 0))...),
	}
	for i := range some.Items {
		for _, d := range []api.Line{{Sku: 1}, {Sku: 128}, {Qty: 1}, {Qty: 1 << 32}, {Qty: least}} {
			items := slices.Clone(some.Items)
			items[i].Sku += d.Sku
			items[i].Qty ^= d.Qty
			steps = append(steps, step(some.Tag, some.Ware, items...))
		}
	}
	for i, a := range steps {
		for j, b := range steps {
			b.Items = slices.Clone(b.Items)
			if is := Same(a, b); is != (i == j) {
				t.Errorf("Same(%v, %v) is %t", a, b, is)
			}
		}
	}
}

func TestSameOfStepsWithoutItems(t *testing.T) {
	if !Same(api.Step{Items: []api.Line{}}, api.Step{}) || !Same(api.Step{}, api.Step{Items: []api.Line{}}) {
		t.Error("lists without an item are not the same")
	}
}

// P12.4

func TestWhatIsDoneAndUndoneComesToNothing(t *testing.T) {
	steps := goodSteps()
	for _, tag := range tags() {
		for _, items := range itemLists() {
			steps = append(steps, step(tag, 9, items...))
		}
	}
	for _, s := range steps {
		told(t, "Ops and Undo", s, net(t, Ops(s), Undo(s)), nil)
		told(t, "Undo and Ops", s, net(t, Undo(s), Ops(s)), nil)
	}
}

func TestGoodStepsAddToFieldsThatThereAre(t *testing.T) {
	seen := map[api.Key]bool{}
	for skus := 1; skus <= api.MaxSkus; skus++ {
		for wares := 1; wares <= api.MaxWares; wares++ {
			for _, tag := range tags() {
				for ware := range uint8(6) {
					for _, items := range itemLists() {
						s := step(tag, ware, items...)
						if !Good(skus, wares, s) {
							continue
						}
						l := slices.Concat(Ops(s), Undo(s))
						if len(l) < 2*len(items) || len(l) > 2*api.MaxOps {
							t.Errorf("%v has %d additions there and back", s, len(l))
						}
						for _, o := range l {
							seen[o.Key] = true
							if o.Delta == 0 || !key.Good(skus, wares, o.Key) {
								t.Errorf("of %d articles and %d warehouses %v adds %v", skus, wares, s, o)
							}
						}
					}
				}
			}
		}
	}
	if n := key.Count(api.MaxSkus, api.MaxWares); len(seen) != n {
		t.Errorf("%d of %d fields were added to", len(seen), n)
	}
}

func TestOppositeTags(t *testing.T) {
	pairs := [][2]uint8{{api.TgTake, api.TgFree}, {api.TgPut, api.TgDraw}, {api.TgOwe, api.TgPay}}
	for _, p := range pairs {
		for _, s := range goodSteps() {
			if s.Tag != p[0] {
				continue
			}
			other := step(p[1], s.Ware, s.Items...)
			if !Good(4, 3, other) {
				t.Errorf("%v may be, and %v may not", s, other)
			}
			told(t, "a step and its opposite", s, net(t, Ops(s), Ops(other)), nil)
			told(t, "the opposite", s, net(t, Ops(other)), net(t, Undo(s)))
			told(t, "the opposite's Undo", s, net(t, Undo(other)), net(t, Ops(s)))
			if len(net(t, Ops(s))) == 0 {
				t.Errorf("%v comes to nothing", s)
			}
		}
	}
}

// Rule 4: what is handed in and out

func TestStepsThatAreHandedInAreLeftAlone(t *testing.T) {
	room := []api.Line{line(2, 5), line(1, 0), line(3, 7), line(0, 9)}
	was := slices.Clone(room)
	for _, tag := range tags() {
		s := step(tag, 1, room[:3]...)
		Good(4, 4, s)
		Ops(s)
		Undo(s)
		Same(s, s)
		if !slices.Equal(room, was) {
			t.Fatalf("of tag %d: the items have become %v", tag, room)
		}
	}
}

func TestListsThatAreHandedOutAreTheirOwn(t *testing.T) {
	for tag := api.TgTake; tag <= api.TgPay; tag++ {
		for _, call := range []func(api.Step) []api.Op{Ops, Undo} {
			s := step(tag, 1, line(0, 1), line(1, 2), line(2, 3))
			was := slices.Clone(s.Items)
			a, b := call(s), call(s)
			want := slices.Clone(b)
			for i := range a[:cap(a)] {
				a[:cap(a)][i] = add(owed(9), 99)
			}
			if !slices.Equal(s.Items, was) || !slices.Equal(b, want) {
				t.Errorf("of tag %d: with an answer that is changed, the items are %v, and another answer is %v", tag, s.Items, b)
			}
			for i := range s.Items {
				s.Items[i] = api.Line{}
			}
			if !slices.Equal(b, want) {
				t.Errorf("of tag %d: an answer changes with what was handed in: %v", tag, b)
			}
			told(t, "a call anew", s, call(step(tag, 1, was...)), want)
		}
	}
}
