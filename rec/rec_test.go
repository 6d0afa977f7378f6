package rec

import (
	"math"
	"math/rand"
	"slices"
	"strings"
	"testing"

	"pledge/api"
	"pledge/frame"
	"pledge/prog"
)

const (
	least    = math.MinInt64
	greatest = math.MaxInt64
	last     = math.MaxUint32
)

// line is so many of an article.
func line(sku uint8, qty int64) api.Line { return api.Line{Sku: sku, Qty: qty} }

// take is so many of an article at a warehouse, for an order.
func take(order uint32, sku, ware uint8, qty int64) api.Take {
	return api.Take{Order: order, Sku: sku, Ware: ware, Qty: qty}
}

// named is a key.
func named(kind, sku, ware uint8) api.Key { return api.Key{Kind: kind, Sku: sku, Ware: ware} }

// longest is a cancelling of as much as there may be: no program has more bytes but a placing with lines.
func longest() api.Program {
	p := api.Program{Kind: api.RqCancel, Order: last, Owes: []api.Line{line(1, greatest), line(2, greatest), line(3, greatest)}}
	for i := range 12 {
		p.Takes = append(p.Takes, take(last, uint8(i%3+1), uint8(i/3), greatest))
	}
	return p
}

// greatestPlace is a placing that has as many lines, takes and owes as there may be.
func greatestPlace() api.Program {
	p := longest()
	p.Kind = api.RqPlace
	for i := range p.Takes {
		p.Takes[i].Qty = greatest / 4
	}
	p.Lines = p.Owes
	p.Owes = []api.Line{line(1, 3), line(2, 3), line(3, 3)}
	return p
}

// goodPrograms are programs of all kinds that may be.
func goodPrograms() []api.Program {
	return []api.Program{
		{Kind: api.RqPlace, Order: 9, Lines: []api.Line{line(0, 5)}, Takes: []api.Take{take(9, 0, 1, 3)}, Owes: []api.Line{line(0, 2)}},
		{Kind: api.RqPlace, Order: 1, Policy: api.PoWhole, Lines: []api.Line{line(3, greatest)}, Takes: []api.Take{take(1, 3, 3, greatest)}},
		greatestPlace(),
		{Kind: api.RqCancel, Order: 7, Owes: []api.Line{line(1, 4)}},
		longest(),
		{Kind: api.RqShip, Order: 0x01020304, Takes: []api.Take{take(0x01020304, 1, 0, 2), take(0x01020304, 2, 0, 1)}},
		{Kind: api.RqReturn, Order: last, Takes: longest().Takes},
		{Kind: api.RqRestock, Sku: 3, To: 3, Qty: 7},
		{Kind: api.RqRestock, Sku: 1, To: 2, Qty: 9, Takes: []api.Take{take(5, 1, 2, 4), take(3, 1, 2, 5)}},
		{Kind: api.RqTransfer, Sku: 3, From: 3, To: 2, Qty: greatest},
	}
}

// badPrograms are programs that may not be, and are not empty.
func badPrograms() []api.Program {
	return []api.Program{
		{Kind: api.RqPlace, Order: 9},
		{Kind: api.RqCancel, Order: 7},
		{Kind: api.RqShip, Takes: []api.Take{take(0, 1, 0, 2)}},
		{Kind: api.RqRestock, Sku: 4, To: 3, Qty: 7},
		{Kind: api.RqRestock, Sku: 3, To: 4, Qty: 7},
		{Kind: api.RqTransfer, Sku: 3, From: 3, To: 3, Qty: 1},
		{Kind: api.RqQuery, Qty: 1},
		{Kind: 9},
		{Qty: -1},
		{Order: 1},
		{Owes: []api.Line{line(0, 1)}},
		{Takes: []api.Take{{}}},
	}
}

// has tells whether records of a kind have a part, by the chapter's words.
func has(kind uint8, part string) bool {
	kinds := [...]string{
		1: "Saga Prog",
		2: "Saga Txn Step Comp",
		3: "Txn Key Delta",
		4: "Txn",
		5: "Txn",
		6: "Txn Key Delta",
		7: "Txn",
		8: "Saga",
		9: "Saga Out",
	}
	return int(kind) < len(kinds) && strings.Contains(kinds[kind], part)
}

// isKey tells whether a key is one of four articles and four warehouses.
func isKey(k api.Key) bool {
	housed := k.Kind == 1 || k.Kind == 2
	return k.Kind >= 1 && k.Kind <= 4 && k.Sku < 4 && k.Ware < 4 && (housed || k.Ware == 0)
}

// mayBe is Good by the chapter's words.
func mayBe(r api.Rec) bool {
	may := r.Kind >= 1 && r.Kind <= 9
	may = may && (r.Saga != 0) == has(r.Kind, "Saga")
	may = may && (r.Txn != 0) == has(r.Kind, "Txn")
	if has(r.Kind, "Step") {
		may = may && r.Step <= 4
	} else {
		may = may && r.Step == 0 && !r.Comp
	}
	if has(r.Kind, "Delta") {
		may = may && isKey(r.Key) && r.Delta != 0 && r.Delta != least
	} else {
		may = may && r.Key == named(0, 0, 0) && r.Delta == 0
	}
	if has(r.Kind, "Out") {
		may = may && (r.Out == 1 || r.Out == 2)
	} else {
		may = may && r.Out == 0
	}
	if has(r.Kind, "Prog") {
		return may && prog.Good(4, 4, r.Prog)
	}
	return may && progBytes(r.Prog).same(progBytes(api.Program{}))
}

// text is bytes put together, number by number.
type text []byte

func (b text) num(x uint64, size int) text {
	for range size {
		b = append(b, byte(x))
		x /= 256
	}
	return b
}

func (b text) same(c text) bool { return slices.Equal(b, c) }

func (b text) lines(l []api.Line) text {
	b = b.num(uint64(len(l)), 1)
	for _, x := range l {
		b = b.num(uint64(x.Sku), 1).num(uint64(x.Qty), 8)
	}
	return b
}

// progBytes is a program's bytes (13), whether it may be or not.
func progBytes(p api.Program) text {
	b := text(nil).num(uint64(p.Kind), 1).num(uint64(p.Order), 4).num(uint64(p.Policy), 1).lines(p.Lines)
	b = b.num(uint64(len(p.Takes)), 1)
	for _, x := range p.Takes {
		b = b.num(uint64(x.Order), 4).num(uint64(x.Sku), 1).num(uint64(x.Ware), 1).num(uint64(x.Qty), 8)
	}
	return b.lines(p.Owes).num(uint64(p.Sku), 1).num(uint64(p.From), 1).num(uint64(p.To), 1).num(uint64(p.Qty), 8)
}

// truth is a byte 1 or 0.
func truth(is bool) uint64 {
	if is {
		return 1
	}
	return 0
}

// wantBytes is a record's bytes by the chapter's words, whether it may be or not.
func wantBytes(r api.Rec) text {
	b := text(nil).num(uint64(r.Kind), 1)
	if has(r.Kind, "Saga") {
		b = b.num(uint64(r.Saga), 4)
	}
	if has(r.Kind, "Txn") {
		b = b.num(uint64(r.Txn), 4)
	}
	if has(r.Kind, "Step") {
		b = b.num(uint64(r.Step), 1).num(truth(r.Comp), 1)
	}
	if has(r.Kind, "Delta") {
		b = b.num(uint64(r.Key.Kind), 1).num(uint64(r.Key.Sku), 1).num(uint64(r.Key.Ware), 1).num(uint64(r.Delta), 8)
	}
	if has(r.Kind, "Out") {
		b = b.num(uint64(r.Out), 1)
	}
	if has(r.Kind, "Prog") {
		p := progBytes(r.Prog)
		b = append(b.num(uint64(len(p)), 2), p...)
	}
	return b
}

// all is every thing that two records may differ in.
func all(r api.Rec) string {
	b := text(nil).num(uint64(r.Kind), 1).num(uint64(r.Saga), 4).num(uint64(r.Txn), 4).num(uint64(r.Step), 1).num(truth(r.Comp), 1)
	b = b.num(uint64(r.Key.Kind), 1).num(uint64(r.Key.Sku), 1).num(uint64(r.Key.Ware), 1).num(uint64(r.Delta), 8)
	return string(append(b.num(uint64(r.Out), 1), progBytes(r.Prog)...))
}

// own is a record whose program has lists of its own.
func own(r api.Rec) api.Rec {
	r.Prog.Lines = append([]api.Line{}, r.Prog.Lines...)
	r.Prog.Takes = append([]api.Take{}, r.Prog.Takes...)
	r.Prog.Owes = append([]api.Line{}, r.Prog.Owes...)
	return r
}

// someIds are numbers of sagas and transactions.
func someIds() []uint32 { return []uint32{0, 1, 0x04030201, last} }

// someDeltas are numbers to be added.
func someDeltas() []int64 {
	return []int64{least, least + 1, -1 << 32, -1, 0, 1, 255, 0x0102030405060708, greatest}
}

// someKeys are keys, of which some may be and some may not.
func someKeys() []api.Key {
	return []api.Key{
		named(0, 0, 0), named(1, 0, 0), named(1, 3, 3), named(2, 2, 1), named(3, 3, 0), named(4, 0, 0), named(5, 0, 0),
		named(0, 1, 0), named(0, 0, 1), named(1, 4, 0), named(1, 0, 4), named(3, 0, 1), named(4, 1, 3), named(255, 255, 255),
	}
}

// somePrograms are no program, and programs of which some may be and some may not.
func somePrograms() []api.Program {
	return slices.Concat([]api.Program{{}}, goodPrograms()[:3], goodPrograms()[8:], badPrograms()[:2], badPrograms()[8:])
}

// mixed are records of all parts in many ways, of which most may not be.
func mixed() []api.Rec {
	var l []api.Rec
	for kind := range uint8(12) {
		for _, saga := range []uint32{0, 1, last} {
			for _, txn := range []uint32{0, 1, last} {
				for _, step := range []uint8{0, 4, 5} {
					l = append(l, mixedOf(api.Rec{Kind: kind, Saga: saga, Txn: txn, Step: step})...)
					l = append(l, mixedOf(api.Rec{Kind: kind, Saga: saga, Txn: txn, Step: step, Comp: true})...)
				}
			}
		}
	}
	return l
}

// mixedOf is a record with what it may add, its outcomes and its programs, in many ways.
func mixedOf(r api.Rec) []api.Rec {
	var l []api.Rec
	progs := []api.Program{{}, goodPrograms()[0], badPrograms()[0]}
	for _, k := range []api.Key{{}, named(1, 3, 3), named(4, 3, 1), named(5, 0, 0)} {
		for _, d := range []int64{0, -1, least} {
			for out := range uint8(4) {
				for _, p := range progs {
					r.Key, r.Delta, r.Out, r.Prog = k, d, out, p
					l = append(l, r)
				}
			}
		}
	}
	return l
}

// goods are records of all kinds that may be.
func goods() []api.Rec {
	var l []api.Rec
	for _, id := range someIds()[1:] {
		for _, p := range goodPrograms() {
			l = append(l, api.Rec{Kind: api.RcStart, Saga: id, Prog: p})
		}
		for _, other := range someIds()[1:] {
			for step := range uint8(5) {
				l = append(l, api.Rec{Kind: api.RcBegin, Saga: id, Txn: other, Step: step}, api.Rec{Kind: api.RcBegin, Saga: id, Txn: other, Step: step, Comp: true})
			}
		}
		l = append(l, goodAdds(id)...)
		for _, kind := range []uint8{api.RcCommit, api.RcAbort, api.RcGone} {
			l = append(l, api.Rec{Kind: kind, Txn: id})
		}
		l = append(l, api.Rec{Kind: api.RcBack, Saga: id})
		l = append(l, api.Rec{Kind: api.RcDone, Saga: id, Out: api.OcCommitted}, api.Rec{Kind: api.RcDone, Saga: id, Out: api.OcCompensated})
	}
	return l
}

// goodAdds are records of a transaction that add, and undo.
func goodAdds(txn uint32) []api.Rec {
	var l []api.Rec
	for _, k := range someKeys() {
		for _, d := range someDeltas() {
			if isKey(k) && d != 0 && d != least {
				l = append(l, api.Rec{Kind: api.RcAdd, Txn: txn, Key: k, Delta: d}, api.Rec{Kind: api.RcUndo, Txn: txn, Key: k, Delta: d})
			}
		}
	}
	return l
}

// spoil changes one thing of a record.
func spoil(r *rand.Rand, x api.Rec) api.Rec {
	x = own(x)
	ids, keys, deltas, progs := someIds(), someKeys(), someDeltas(), somePrograms()
	bytes := []uint8{0, 1, 2, 3, 4, 5, 8, 9, 10, 127, 128, 255}
	a := bytes[r.Intn(len(bytes))]
	switch r.Intn(9) {
	case 0:
		x.Kind = a
	case 1:
		x.Saga = ids[r.Intn(len(ids))]
	case 2:
		x.Txn = ids[r.Intn(len(ids))]
	case 3:
		x.Step = a
	case 4:
		x.Comp = !x.Comp
	case 5:
		x.Key = keys[r.Intn(len(keys))]
	case 6:
		x.Delta = deltas[r.Intn(len(deltas))]
	case 7:
		x.Out = a
	case 8:
		x.Prog = progs[r.Intn(len(progs))]
	}
	return x
}

// spoilt are records of which many may not be.
func spoilt() []api.Rec {
	r := rand.New(rand.NewSource(14))
	l := []api.Rec{{}}
	for _, x := range goods() {
		for range 8 {
			y := spoil(r, x)
			l = append(l, y, spoil(r, y))
		}
	}
	return l
}

// P14.1

func TestGood(t *testing.T) {
	start := goodPrograms()[0]
	stock := named(1, 3, 3)
	cases := []struct {
		what string
		r    api.Rec
		want bool
	}{
		{"a start", api.Rec{Kind: api.RcStart, Saga: 1, Prog: start}, true},
		{"a start of the last number", api.Rec{Kind: api.RcStart, Saga: last, Prog: start}, true},
		{"a start of no saga", api.Rec{Kind: api.RcStart, Prog: start}, false},
		{"a start of no program", api.Rec{Kind: api.RcStart, Saga: 1}, false},
		{"a start of a query", api.Rec{Kind: api.RcStart, Saga: 1, Prog: api.Program{Kind: api.RqQuery}}, false},
		{"a start of four articles", api.Rec{Kind: api.RcStart, Saga: 1, Prog: api.Program{Kind: api.RqRestock, Sku: 3, Qty: 1}}, true},
		{"a start of five articles", api.Rec{Kind: api.RcStart, Saga: 1, Prog: api.Program{Kind: api.RqRestock, Sku: 4, Qty: 1}}, false},
		{"a start of four warehouses", api.Rec{Kind: api.RcStart, Saga: 1, Prog: api.Program{Kind: api.RqRestock, To: 3, Qty: 1}}, true},
		{"a start of five warehouses", api.Rec{Kind: api.RcStart, Saga: 1, Prog: api.Program{Kind: api.RqRestock, To: 4, Qty: 1}}, false},
		{"a start with a transaction", api.Rec{Kind: api.RcStart, Saga: 1, Txn: 1, Prog: start}, false},
		{"a begin", api.Rec{Kind: api.RcBegin, Saga: 1, Txn: 1}, true},
		{"a begin of the last step", api.Rec{Kind: api.RcBegin, Saga: last, Txn: last, Step: 4}, true},
		{"a begin of a step too many", api.Rec{Kind: api.RcBegin, Saga: 1, Txn: 1, Step: 5}, false},
		{"a begin that goes back", api.Rec{Kind: api.RcBegin, Saga: 1, Txn: 1, Step: 2, Comp: true}, true},
		{"a begin of no saga", api.Rec{Kind: api.RcBegin, Txn: 1}, false},
		{"a begin of no transaction", api.Rec{Kind: api.RcBegin, Saga: 1}, false},
		{"a begin with a key", api.Rec{Kind: api.RcBegin, Saga: 1, Txn: 1, Key: stock}, false},
		{"a begin with a program", api.Rec{Kind: api.RcBegin, Saga: 1, Txn: 1, Prog: start}, false},
		{"an addition", api.Rec{Kind: api.RcAdd, Txn: 1, Key: stock, Delta: 1}, true},
		{"the greatest addition", api.Rec{Kind: api.RcAdd, Txn: 1, Key: stock, Delta: greatest}, true},
		{"the least addition", api.Rec{Kind: api.RcAdd, Txn: 1, Key: stock, Delta: least + 1}, true},
		{"an addition of less", api.Rec{Kind: api.RcAdd, Txn: 1, Key: stock, Delta: least}, false},
		{"an addition of nothing", api.Rec{Kind: api.RcAdd, Txn: 1, Key: stock}, false},
		{"an addition to no field", api.Rec{Kind: api.RcAdd, Txn: 1, Delta: 1}, false},
		{"an addition of no transaction", api.Rec{Kind: api.RcAdd, Key: stock, Delta: 1}, false},
		{"an addition with a saga", api.Rec{Kind: api.RcAdd, Saga: 1, Txn: 1, Key: stock, Delta: 1}, false},
		{"an addition with an outcome", api.Rec{Kind: api.RcAdd, Txn: 1, Key: stock, Delta: 1, Out: 1}, false},
		{"what is undone", api.Rec{Kind: api.RcUndo, Txn: 3, Key: named(2, 1, 3), Delta: -5}, true},
		{"the least number is undone", api.Rec{Kind: api.RcUndo, Txn: 3, Key: named(2, 1, 3), Delta: least}, false},
		{"nothing is undone", api.Rec{Kind: api.RcUndo, Txn: 3, Key: named(2, 1, 3)}, false},
		{"a commit", api.Rec{Kind: api.RcCommit, Txn: 1}, true},
		{"a commit of no transaction", api.Rec{Kind: api.RcCommit}, false},
		{"a commit with a saga", api.Rec{Kind: api.RcCommit, Saga: 1, Txn: 1}, false},
		{"a commit with a step", api.Rec{Kind: api.RcCommit, Txn: 1, Step: 1}, false},
		{"a commit that goes back", api.Rec{Kind: api.RcCommit, Txn: 1, Comp: true}, false},
		{"an abort", api.Rec{Kind: api.RcAbort, Txn: 1}, true},
		{"an abort with an addition", api.Rec{Kind: api.RcAbort, Txn: 1, Delta: 1}, false},
		{"a gone one", api.Rec{Kind: api.RcGone, Txn: last}, true},
		{"a gone one with an outcome", api.Rec{Kind: api.RcGone, Txn: last, Out: 2}, false},
		{"a saga that turns", api.Rec{Kind: api.RcBack, Saga: 1}, true},
		{"no saga turns", api.Rec{Kind: api.RcBack}, false},
		{"a saga turns with a transaction", api.Rec{Kind: api.RcBack, Saga: 1, Txn: 1}, false},
		{"a saga turns with an outcome", api.Rec{Kind: api.RcBack, Saga: 1, Out: 2}, false},
		{"a saga is committed", api.Rec{Kind: api.RcDone, Saga: 1, Out: api.OcCommitted}, true},
		{"a saga is compensated", api.Rec{Kind: api.RcDone, Saga: 1, Out: api.OcCompensated}, true},
		{"a saga is over, but how", api.Rec{Kind: api.RcDone, Saga: 1}, false},
		{"no such outcome", api.Rec{Kind: api.RcDone, Saga: 1, Out: 3}, false},
		{"no saga is over", api.Rec{Kind: api.RcDone, Out: 1}, false},
		{"a saga is over with its program", api.Rec{Kind: api.RcDone, Saga: 1, Out: 1, Prog: start}, false},
		{"no kind", api.Rec{Saga: 1}, false},
		{"nothing", api.Rec{}, false},
	}
	for _, c := range cases {
		if is := Good(c.r); is != c.want {
			t.Errorf("%s: Good(%v) is %t", c.what, c.r, is)
		}
	}
}

// firsts is a record that may be of each kind, by its kind.
func firsts() map[uint8]api.Rec {
	l := map[uint8]api.Rec{}
	for _, r := range goods() {
		if _, ok := l[r.Kind]; !ok {
			l[r.Kind] = r
		}
	}
	return l
}

func TestGoodOfEachPart(t *testing.T) {
	changes := []func(r *api.Rec){
		func(r *api.Rec) { r.Saga = 0 },
		func(r *api.Rec) { r.Saga = 1 << 31 },
		func(r *api.Rec) { r.Txn = 0 },
		func(r *api.Rec) { r.Txn = 1 << 31 },
		func(r *api.Rec) { r.Comp = true },
		func(r *api.Rec) { r.Comp = false },
		func(r *api.Rec) { r.Key.Kind = 0 },
		func(r *api.Rec) { r.Key.Sku++ },
		func(r *api.Rec) { r.Key.Ware++ },
		func(r *api.Rec) { r.Key = named(1, 0, 0) },
		func(r *api.Rec) { r.Delta = 0 },
		func(r *api.Rec) { r.Delta = least },
		func(r *api.Rec) { r.Delta = 1 << 62 },
		func(r *api.Rec) { r.Prog = api.Program{} },
	}
	for _, p := range slices.Concat(goodPrograms(), badPrograms()) {
		changes = append(changes, func(r *api.Rec) { r.Prog = p })
	}
	for x := range 256 {
		changes = append(changes, func(r *api.Rec) { r.Step = uint8(x) }, func(r *api.Rec) { r.Out = uint8(x) }, func(r *api.Rec) { r.Kind = uint8(x) })
	}
	for kind, r := range firsts() {
		for i, change := range changes {
			x := own(r)
			change(&x)
			if is := Good(x); is != mayBe(x) {
				t.Errorf("kind %d, change %d: Good(%v) is %t", kind, i, x, is)
			}
		}
	}
}

func TestGoodOfEachKey(t *testing.T) {
	parts := []uint8{0, 1, 2, 3, 4, 5, 6, 7, 8, 16, 127, 128, 129, 255}
	for _, kind := range []uint8{api.RcAdd, api.RcUndo} {
		n := 0
		for k := range 256 {
			for _, sku := range parts {
				for _, ware := range parts {
					r := api.Rec{Kind: kind, Txn: 1, Key: named(uint8(k), sku, ware), Delta: 1}
					is := Good(r)
					if is != isKey(r.Key) {
						t.Fatalf("Good(%v) is %t", r, is)
					}
					n += int(truth(is))
				}
			}
		}
		// stock and held of 4 articles in 4 warehouses, out and owed of 4 articles
		if n != 40 {
			t.Errorf("kind %d: %d keys", kind, n)
		}
	}
}

func TestGoodGoesByTheWords(t *testing.T) {
	seen := map[bool]int{}
	for _, r := range slices.Concat(goods(), spoilt(), mixed()) {
		is, want := Good(r), mayBe(r)
		seen[want]++
		if is != want {
			t.Fatalf("Good(%v) is %t", r, is)
		}
	}
	if seen[true] < 1000 || seen[false] < 10000 {
		t.Errorf("good and not: %v", seen)
	}
	for _, r := range goods() {
		if !Good(r) {
			t.Errorf("Good(%v) is false", r)
		}
	}
}

func TestGoodOfListsWithoutAnElement(t *testing.T) {
	for _, r := range goods() {
		if !Good(own(r)) {
			t.Errorf("with empty lists %v may not be", r)
		}
	}
}

// P14.2

func TestEncode(t *testing.T) {
	transfer := api.Program{Kind: api.RqTransfer, Sku: 3, From: 2, To: 1, Qty: 0x0102030405060708}
	cases := []struct {
		r    api.Rec
		want []byte
	}{
		{api.Rec{Kind: api.RcStart, Saga: 0x01020304, Prog: transfer}, []byte{1, 4, 3, 2, 1, 20, 0, 6, 0, 0, 0, 0, 0, 0, 0, 0, 3, 2, 1, 8, 7, 6, 5, 4, 3, 2, 1}},
		{api.Rec{Kind: api.RcBegin, Saga: 0x01020304, Txn: 0x05060708, Step: 4}, []byte{2, 4, 3, 2, 1, 8, 7, 6, 5, 4, 0}},
		{api.Rec{Kind: api.RcBegin, Saga: 1, Txn: 258, Step: 3, Comp: true}, []byte{2, 1, 0, 0, 0, 2, 1, 0, 0, 3, 1}},
		{api.Rec{Kind: api.RcAdd, Txn: 7, Key: named(1, 2, 3), Delta: 0x0102030405060708}, []byte{3, 7, 0, 0, 0, 1, 2, 3, 8, 7, 6, 5, 4, 3, 2, 1}},
		{api.Rec{Kind: api.RcCommit, Txn: last}, []byte{4, 255, 255, 255, 255}},
		{api.Rec{Kind: api.RcAbort, Txn: 1 << 16}, []byte{5, 0, 0, 1, 0}},
		{api.Rec{Kind: api.RcUndo, Txn: 3, Key: named(4, 1, 0), Delta: -5}, []byte{6, 3, 0, 0, 0, 4, 1, 0, 251, 255, 255, 255, 255, 255, 255, 255}},
		{api.Rec{Kind: api.RcGone, Txn: 9}, []byte{7, 9, 0, 0, 0}},
		{api.Rec{Kind: api.RcBack, Saga: 10}, []byte{8, 10, 0, 0, 0}},
		{api.Rec{Kind: api.RcDone, Saga: 11, Out: api.OcCommitted}, []byte{9, 11, 0, 0, 0, 1}},
		{api.Rec{Kind: api.RcDone, Saga: 11, Out: api.OcCompensated}, []byte{9, 11, 0, 0, 0, 2}},
	}
	for _, c := range cases {
		if b, e := Encode(c.r); e != api.OK || !slices.Equal(b, c.want) {
			t.Errorf("%v is %v, error %d; want %v", c.r, b, e, c.want)
		}
		if r, e := Decode(c.want); e != api.OK || all(r) != all(c.r) {
			t.Errorf("%v are %v, error %d; want %v", c.want, r, e, c.r)
		}
	}
}

func TestEncodeGoesByTheWords(t *testing.T) {
	for _, r := range slices.Concat(goods(), spoilt(), mixed()) {
		b, e := Encode(r)
		if !mayBe(r) {
			if e != api.ErrArg || len(b) != 0 {
				t.Fatalf("%v may not be, and is %v, error %d", r, b, e)
			}
			continue
		}
		if e != api.OK || !slices.Equal(b, wantBytes(r)) {
			t.Fatalf("%v is %v, error %d; want %v", r, b, e, wantBytes(r))
		}
	}
}

// decodes asks Decode, and holds its answer against an error and a record.
func decodes(t *testing.T, b []byte, r api.Rec, want api.Errno) {
	t.Helper()
	got, e := Decode(b)
	if e != want || all(got) != all(r) {
		t.Errorf("%d bytes %v are %v, error %d; want %v, error %d", len(b), b[:min(len(b), 40)], got, e, r, want)
	}
}

func TestDecodeOfABeginning(t *testing.T) {
	for _, r := range goods() {
		b := wantBytes(r)
		for n := range b {
			decodes(t, b[:n], api.Rec{}, api.ErrShort)
		}
		decodes(t, b, r, api.OK)
		for _, more := range []int{1, 2, 17, 1000} {
			decodes(t, append(slices.Clone(b), make([]byte, more)...), api.Rec{}, api.ErrForm)
		}
		decodes(t, slices.Concat(b, b), api.Rec{}, api.ErrForm)
	}
	decodes(t, nil, api.Rec{}, api.ErrShort)
	decodes(t, []byte{}, api.Rec{}, api.ErrShort)
	decodes(t, append(wantBytes(goods()[0]), make([]byte, 1<<20)...), api.Rec{}, api.ErrForm)
}

func TestDecodeOfNoKind(t *testing.T) {
	for kind := range 256 {
		if kind >= 1 && kind <= 9 {
			// A kind that is there lacks what it has.
			decodes(t, []byte{byte(kind)}, api.Rec{}, api.ErrShort)
			continue
		}
		for _, more := range []int{0, 1, 4, 15, 600} {
			decodes(t, append([]byte{byte(kind)}, make([]byte, more)...), api.Rec{}, api.ErrForm)
		}
	}
}

func TestDecodeOfNoTruth(t *testing.T) {
	b := wantBytes(api.Rec{Kind: api.RcBegin, Saga: 1, Txn: 1, Step: 1, Comp: true})
	for x := 2; x < 256; x++ {
		b[len(b)-1] = byte(x)
		decodes(t, b, api.Rec{}, api.ErrForm)
	}
}

// told is what a record's bytes tell of it: what its kind has.
func told(r api.Rec) api.Rec {
	x := api.Rec{Kind: r.Kind}
	if has(r.Kind, "Saga") {
		x.Saga = r.Saga
	}
	if has(r.Kind, "Txn") {
		x.Txn = r.Txn
	}
	if has(r.Kind, "Step") {
		x.Step, x.Comp = r.Step, r.Comp
	}
	if has(r.Kind, "Delta") {
		x.Key, x.Delta = r.Key, r.Delta
	}
	if has(r.Kind, "Out") {
		x.Out = r.Out
	}
	if has(r.Kind, "Prog") {
		x.Prog = r.Prog
	}
	return x
}

func TestDecodeOfWhatMayNotBe(t *testing.T) {
	seen := map[api.Errno]int{}
	for _, r := range slices.Concat(spoilt(), mixed()) {
		b := wantBytes(r)
		x := told(r)
		want := api.ErrForm
		if mayBe(x) {
			want = api.OK
		}
		seen[want]++
		if want != api.OK {
			x = api.Rec{}
		}
		if got, e := Decode(b); e != want || all(got) != all(x) {
			t.Fatalf("%v are %v, error %d; want %v, error %d", b, got, e, x, want)
		}
	}
	if seen[api.OK] < 1000 || seen[api.ErrForm] < 1000 {
		t.Errorf("good and not: %v", seen)
	}
}

// start is the bytes of a start of a saga whose program has those bytes, and says that it has n.
func start(saga uint32, n int, p []byte) []byte {
	return append(text(nil).num(1, 1).num(uint64(saga), 4).num(uint64(n), 2), p...)
}

func TestDecodeOfAProgram(t *testing.T) {
	for _, p := range goodPrograms() {
		b := progBytes(p)
		decodes(t, start(1, len(b), b), api.Rec{Kind: api.RcStart, Saga: 1, Prog: p}, api.OK)
		decodes(t, start(0, len(b), b), api.Rec{}, api.ErrForm)
		for n := range b {
			// A program that is cut off is told ahead of what is left, and ahead of a saga that may not be.
			decodes(t, start(1, n, b[:n]), api.Rec{}, api.ErrShort)
			decodes(t, start(1, n, b), api.Rec{}, api.ErrShort)
			decodes(t, start(0, n, b), api.Rec{}, api.ErrShort)
			// A length that is too great is of bytes that lack.
			decodes(t, start(1, len(b), b[:n]), api.Rec{}, api.ErrShort)
		}
		long := append(slices.Clone(b), 0, 0)
		decodes(t, start(1, len(b)+1, long[:len(b)+1]), api.Rec{}, api.ErrForm)
		decodes(t, start(1, len(b)+1, long), api.Rec{}, api.ErrForm)
		decodes(t, start(1, len(b), long), api.Rec{}, api.ErrForm)
	}
	for _, p := range badPrograms() {
		b := progBytes(p)
		decodes(t, start(1, len(b), b), api.Rec{}, api.ErrForm)
	}
	// Too many lines are told ahead of the bytes that lack behind them.
	decodes(t, start(1, 7, []byte{1, 1, 0, 0, 0, 0, 4}), api.Rec{}, api.ErrForm)
}

func TestDecodeOfAProgramOfMaxPay(t *testing.T) {
	b := append(progBytes(goodPrograms()[0]), make([]byte, 1<<17)...)
	for _, n := range []int{api.MaxPay - 1, api.MaxPay} {
		// So many bytes may be: they are read, and are no program.
		decodes(t, start(1, n, b[:n]), api.Rec{}, api.ErrForm)
		decodes(t, start(1, n, b[:n-1]), api.Rec{}, api.ErrShort)
		decodes(t, start(1, n, nil), api.Rec{}, api.ErrShort)
	}
	for _, n := range []int{api.MaxPay + 1, api.MaxPay + 2, 1024, 65535} {
		// More may not, whether they are there or not.
		for _, there := range []int{0, 1, n - 1, n, n + 1} {
			decodes(t, start(1, n, b[:there]), api.Rec{}, api.ErrLong)
			decodes(t, start(0, n, b[:there]), api.Rec{}, api.ErrLong)
		}
	}
}

// wantSize is how many bytes a record of a kind has, but of a start.
func wantSize(kind uint8) int { return []int{0, 0, 11, 16, 5, 5, 16, 5, 5, 6}[kind] }

// wantError is what is wrong first with bytes, by the chapter's words, but for whether the record may be.
func wantError(b []byte) api.Errno {
	if len(b) == 0 {
		return api.ErrShort
	}
	if b[0] < 1 || b[0] > 9 {
		return api.ErrForm
	}
	if b[0] == 1 {
		return wantStartError(b)
	}
	n := wantSize(b[0])
	if len(b) < n {
		return api.ErrShort
	}
	if len(b) > n || b[0] == 2 && b[10] > 1 {
		return api.ErrForm
	}
	return api.OK
}

// wantStartError is wantError of a start.
func wantStartError(b []byte) api.Errno {
	if len(b) < 7 {
		return api.ErrShort
	}
	n := int(b[5]) + 256*int(b[6])
	if n > 512 {
		return api.ErrLong
	}
	if len(b) < 7+n {
		return api.ErrShort
	}
	if _, e := prog.Decode(b[7 : 7+n]); e != api.OK {
		return e
	}
	if len(b) > 7+n {
		return api.ErrForm
	}
	return api.OK
}

func TestDecodeOfAnyBytes(t *testing.T) {
	r := rand.New(rand.NewSource(142))
	seen := map[api.Errno]int{}
	for _, x := range slices.Concat(goods(), spoilt()) {
		for range 5 {
			b := wantBytes(x)
			for range r.Intn(3) {
				b[r.Intn(len(b))] = byte(r.Intn(256)) >> r.Intn(9)
			}
			b = append(b, make([]byte, r.Intn(2)*r.Intn(20))...)
			b = b[:len(b)-r.Intn(2)*r.Intn(len(b))]
			y, e := Decode(b)
			seen[e]++
			if want := wantError(b); want != api.OK && e != want {
				t.Fatalf("%v are %v, error %d; want error %d", b, y, e, want)
			} else if want == api.OK && e != api.OK && e != api.ErrForm {
				t.Fatalf("%v: error %d", b, e)
			}
			if e == api.OK && (!mayBe(y) || !slices.Equal(wantBytes(y), b)) {
				t.Fatalf("%v are %v", b, y)
			}
			if e != api.OK && all(y) != all(api.Rec{}) {
				t.Fatalf("with error %d %v are %v", e, b, y)
			}
		}
	}
	if seen[api.OK] < 1000 || seen[api.ErrForm] < 1000 || seen[api.ErrShort] < 1000 || seen[api.ErrLong] == 0 || len(seen) != 4 {
		t.Errorf("errors: %v", seen)
	}
}

// P14.3

func TestCost(t *testing.T) {
	costs := []int{0, 0, 17, 22, 11, 11, 22, 11, 11, 12}
	for kind := range 256 {
		want := 0
		if kind < len(costs) {
			want = costs[kind]
		}
		if n := Cost(uint8(kind)); n != want {
			t.Errorf("Cost(%d) is %d; want %d", kind, n, want)
		}
	}
}

func TestSize(t *testing.T) {
	for _, r := range slices.Concat(goods(), spoilt(), mixed()) {
		want := 0
		if mayBe(r) {
			want = 6 + len(wantBytes(r))
		}
		if n := Size(r); n != want {
			t.Fatalf("Size(%v) is %d; want %d", r, n, want)
		}
	}
	starts := []struct {
		p    api.Program
		want int
	}{
		{api.Program{Kind: api.RqTransfer, To: 1, Qty: 1}, 33},
		{api.Program{Kind: api.RqRestock, Qty: 1}, 33},
		{api.Program{Kind: api.RqRestock, Qty: 1, Takes: []api.Take{take(1, 0, 0, 1)}}, 47},
		{api.Program{Kind: api.RqCancel, Order: 1, Owes: []api.Line{line(0, 1)}}, 42},
		{greatestPlace(), 255},
		{api.Program{}, 0},
	}
	for _, c := range starts {
		if n := Size(api.Rec{Kind: api.RcStart, Saga: 1, Prog: c.p}); n != c.want {
			t.Errorf("the size of a start of %v is %d; want %d", c.p, n, c.want)
		}
	}
}

func TestWord(t *testing.T) {
	words := []string{"", "start", "begin", "add", "commit", "abort", "undo", "gone", "back", "done"}
	for kind := range 256 {
		want := ""
		if kind < len(words) {
			want = words[kind]
		}
		if s := Word(uint8(kind)); s != want {
			t.Errorf("Word(%d) is %q; want %q", kind, s, want)
		}
	}
}

func TestSame(t *testing.T) {
	p := api.Program{Kind: 1, Order: 2, Policy: 3, Lines: []api.Line{line(4, 5)}, Takes: []api.Take{take(8, 9, 10, 11)}, Owes: []api.Line{line(16, 17)}, Sku: 18, From: 19, To: 20, Qty: 21}
	r := api.Rec{Kind: 22, Saga: 23, Txn: 24, Step: 25, Comp: true, Key: named(26, 27, 28), Delta: 29, Out: 30, Prog: p}
	changes := []func(r *api.Rec){
		func(r *api.Rec) { r.Kind = 0 },
		func(r *api.Rec) { r.Kind += 128 },
		func(r *api.Rec) { r.Saga = 24 },
		func(r *api.Rec) { r.Saga += 1 << 31 },
		func(r *api.Rec) { r.Txn = 23 },
		func(r *api.Rec) { r.Txn += 1 << 31 },
		func(r *api.Rec) { r.Saga, r.Txn = r.Txn, r.Saga },
		func(r *api.Rec) { r.Step = 0 },
		func(r *api.Rec) { r.Step += 128 },
		func(r *api.Rec) { r.Comp = false },
		func(r *api.Rec) { r.Key.Kind = 0 },
		func(r *api.Rec) { r.Key.Sku = 28 },
		func(r *api.Rec) { r.Key.Ware = 27 },
		func(r *api.Rec) { r.Delta = -29 },
		func(r *api.Rec) { r.Delta += 1 << 62 },
		func(r *api.Rec) { r.Out = 0 },
		func(r *api.Rec) { r.Prog.Kind = 2 },
		func(r *api.Rec) { r.Prog.Order = 0 },
		func(r *api.Rec) { r.Prog.Policy = 0 },
		func(r *api.Rec) { r.Prog.Lines[0].Qty = 6 },
		func(r *api.Rec) { r.Prog.Lines = nil },
		func(r *api.Rec) { r.Prog.Takes[0].Order = 9 },
		func(r *api.Rec) { r.Prog.Takes = append(r.Prog.Takes, api.Take{}) },
		func(r *api.Rec) { r.Prog.Owes[0].Sku = 17 },
		func(r *api.Rec) { r.Prog.Sku = 0 },
		func(r *api.Rec) { r.Prog.From = 0 },
		func(r *api.Rec) { r.Prog.To = 0 },
		func(r *api.Rec) { r.Prog.Qty = 0 },
		func(r *api.Rec) { r.Prog = api.Program{} },
		func(r *api.Rec) { *r = api.Rec{} },
	}
	if !Same(r, own(r)) || !Same(own(r), r) {
		t.Error("a record is not the same")
	}
	for i, change := range changes {
		x := own(r)
		change(&x)
		if Same(r, x) || Same(x, r) || !Same(x, own(x)) {
			t.Errorf("change %d is not seen", i)
		}
	}
	if !Same(api.Rec{}, own(api.Rec{})) || !Same(own(api.Rec{}), api.Rec{}) {
		t.Error("lists without an element are not the same")
	}
}

func TestSameGoesByTheWords(t *testing.T) {
	r := rand.New(rand.NewSource(143))
	l := slices.Concat(goods(), spoilt())
	for i, a := range l {
		// Those that lie beside each other are alike, mostly.
		for _, b := range []api.Rec{a, own(a), spoil(r, a), l[(i+1)%len(l)], l[r.Intn(len(l))]} {
			if is := Same(a, b); is != (all(a) == all(b)) {
				t.Fatalf("Same(%v, %v) is %t", a, b, is)
			}
		}
	}
}

// P14.4

func TestWhatIsEncodedIsDecoded(t *testing.T) {
	for _, r := range goods() {
		b, _ := Encode(r)
		x, e := Decode(b)
		if e != api.OK || !Same(r, x) || all(r) != all(x) {
			t.Fatalf("%v is %v behind its bytes, error %d", r, x, e)
		}
		if again, e := Encode(x); e != api.OK || !slices.Equal(again, b) {
			t.Fatalf("%v is %v behind its bytes", b, again)
		}
	}
}

func TestRecordsFitIntoFrames(t *testing.T) {
	sizes := map[uint8]map[int]int{}
	for _, r := range goods() {
		b, _ := Encode(r)
		f, e := frame.Put(b)
		if e != api.OK || len(f) != Size(r) {
			t.Fatalf("the frame of %v has %d bytes, error %d; its size is %d", r, len(f), e, Size(r))
		}
		if sizes[r.Kind] == nil {
			sizes[r.Kind] = map[int]int{}
		}
		sizes[r.Kind][len(f)]++
	}
	for kind := range uint8(10) {
		if kind <= api.RcStart {
			continue
		}
		if len(sizes[kind]) != 1 || sizes[kind][Cost(kind)] == 0 {
			t.Errorf("of kind %d frames have %v bytes; its cost is %d", kind, sizes[kind], Cost(kind))
		}
	}
	if len(sizes) != api.Records || len(sizes[api.RcStart]) < 2 {
		t.Errorf("sizes: %v", sizes)
	}
}

// Rules 1 and 4: what is handed in and out

func TestRecordsWithVeryLongLists(t *testing.T) {
	p := api.Program{Kind: api.RqCancel, Order: 1, Lines: slices.Repeat([]api.Line{line(0, 1)}, 1<<18), Takes: slices.Repeat([]api.Take{take(1, 0, 0, 1)}, 1<<18)}
	for kind := range 256 {
		r := api.Rec{Kind: uint8(kind), Saga: 1, Prog: p}
		if b, e := Encode(r); Good(r) || e != api.ErrArg || len(b) != 0 || Size(r) != 0 {
			t.Errorf("of kind %d: %d bytes, error %d, size %d", kind, len(b), e, Size(r))
		}
	}
}

// room is a record whose program's lists have room behind them.
func room(r api.Rec) api.Rec {
	r.Prog.Lines = append(make([]api.Line, 0, 20), r.Prog.Lines...)
	r.Prog.Takes = append(make([]api.Take, 0, 20), r.Prog.Takes...)
	r.Prog.Owes = append(make([]api.Line, 0, 20), r.Prog.Owes...)
	return r
}

// whole is all that a record has, and what lies behind its program's lists.
func whole(r api.Rec) string {
	p := &r.Prog
	p.Lines, p.Takes, p.Owes = p.Lines[:cap(p.Lines)], p.Takes[:cap(p.Takes)], p.Owes[:cap(p.Owes)]
	return all(r)
}

// wipe changes all that lies in a record's lists, and behind them.
func wipe(r api.Rec) {
	for _, l := range [][]api.Line{r.Prog.Lines[:cap(r.Prog.Lines)], r.Prog.Owes[:cap(r.Prog.Owes)]} {
		for i := range l {
			l[i] = line(99, 99)
		}
	}
	for i := range r.Prog.Takes[:cap(r.Prog.Takes)] {
		r.Prog.Takes[:cap(r.Prog.Takes)][i] = take(99, 99, 99, 99)
	}
}

func TestRecordsThatAreHandedInAreLeftAlone(t *testing.T) {
	for _, r := range slices.Concat(goods(), spoilt()) {
		r = room(r)
		was := whole(r)
		Good(r)
		Encode(r)
		Size(r)
		Same(r, r)
		if whole(r) != was {
			t.Fatalf("a record has become %v", r)
		}
	}
}

func TestBytesAndWhatTheyTellAreTheirOwn(t *testing.T) {
	for _, r := range goods() {
		b, _ := Encode(r)
		was := slices.Clone(b)
		x, _ := Decode(b)
		other, _ := Decode(b)
		if !slices.Equal(b, was) {
			t.Fatalf("bytes have become %v", b)
		}
		clear(b[:cap(b)])
		wipe(other)
		if all(x) != all(r) {
			t.Fatalf("a record changes with its bytes: %v", x)
		}
		wipe(x)
		if again, _ := Encode(r); !slices.Equal(again, was) {
			t.Fatalf("%v changes with others", r)
		}
	}
}

func TestDecodedListsShareNothing(t *testing.T) {
	want := greatestPlace()
	r, _ := Decode(wantBytes(api.Rec{Kind: api.RcStart, Saga: 1, Prog: want}))
	lines := r.Prog.Lines[:cap(r.Prog.Lines)]
	for i := range lines {
		lines[i] = line(99, 99)
	}
	if !slices.Equal(r.Prog.Owes, want.Owes) || !slices.Equal(r.Prog.Takes, want.Takes) {
		t.Errorf("lists share what they have: %v", r.Prog)
	}
}
