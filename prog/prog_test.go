package prog

import (
	"math"
	"math/big"
	"math/rand"
	"slices"
	"testing"

	"pledge/api"
	"pledge/step"
)

const (
	least    = math.MinInt64
	greatest = math.MaxInt64
)

// line is so many of an article.
func line(sku uint8, qty int64) api.Line { return api.Line{Sku: sku, Qty: qty} }

// take is so many of an article at a warehouse.
func take(order uint32, sku, ware uint8, qty int64) api.Take {
	return api.Take{Order: order, Sku: sku, Ware: ware, Qty: qty}
}

// numbers are how many articles, or warehouses, somebody may ask for.
func numbers() []int {
	return []int{math.MinInt, -1, 0, 1, 2, 3, 4, 5, 6, 255, 256, 257, 260, math.MaxInt}
}

// kinds are all kinds of programs.
func kinds() []uint8 {
	return []uint8{api.RqPlace, api.RqCancel, api.RqShip, api.RqReturn, api.RqRestock, api.RqTransfer}
}

// linesMayBe is "Lines may be" by the chapter's words.
func linesMayBe(skus int, l []api.Line) bool {
	may := len(l) <= 3
	last := -1
	for _, x := range l {
		may = may && int(x.Sku) > last && int(x.Sku) < skus && x.Qty >= 1
		last = int(x.Sku)
	}
	return may
}

// takesMayBe is "Takes may be" by the chapter's words.
func takesMayBe(skus, wares int, p api.Program) bool {
	may := len(p.Takes) <= 12
	lastWare, lastSku := -1, -1
	many := map[uint8]int{}
	for _, x := range p.Takes {
		may = may && x.Order == p.Order && int(x.Sku) < skus && int(x.Ware) < wares && x.Qty >= 1
		may = may && (int(x.Ware) > lastWare || int(x.Ware) == lastWare && int(x.Sku) > lastSku)
		lastWare, lastSku = int(x.Ware), int(x.Sku)
		many[x.Ware]++
		may = may && many[x.Ware] <= 3
	}
	return may
}

// addsUp tells whether of each article what is taken and owed is what the lines name.
func addsUp(p api.Program) bool {
	var left [256]big.Int
	for _, x := range p.Lines {
		left[x.Sku].Add(&left[x.Sku], big.NewInt(x.Qty))
	}
	for _, x := range p.Takes {
		left[x.Sku].Sub(&left[x.Sku], big.NewInt(x.Qty))
	}
	for _, x := range p.Owes {
		left[x.Sku].Sub(&left[x.Sku], big.NewInt(x.Qty))
	}
	for i := range left {
		if left[i].Sign() != 0 {
			return false
		}
	}
	return true
}

// waitersMayBe is what a restocking asks of its takes, by the chapter's words.
func waitersMayBe(p api.Program) bool {
	may := len(p.Takes) <= 12
	had := map[uint32]bool{0: true}
	all := new(big.Int)
	for _, x := range p.Takes {
		may = may && x.Sku == p.Sku && x.Ware == p.To && x.Qty >= 1 && !had[x.Order]
		had[x.Order] = true
		all.Add(all, big.NewInt(x.Qty))
	}
	return may && all.Cmp(big.NewInt(p.Qty)) <= 0
}

// mayBe is Good by the chapter's words.
func mayBe(skus, wares int, p api.Program) bool {
	if skus < 1 || skus > 4 || wares < 1 || wares > 4 {
		return false
	}
	noMove := p.Sku == 0 && p.From == 0 && p.To == 0 && p.Qty == 0
	ordered := p.Order != 0 && noMove && takesMayBe(skus, wares, p)
	plain := p.Policy == 0 && len(p.Lines) == 0
	switch p.Kind {
	case 1:
		may := ordered && p.Policy <= 1 && len(p.Lines) >= 1 && linesMayBe(skus, p.Lines) && linesMayBe(skus, p.Owes)
		return may && addsUp(p) && (p.Policy == 0 || len(p.Owes) == 0)
	case 2:
		return ordered && plain && linesMayBe(skus, p.Owes) && len(p.Takes)+len(p.Owes) > 0
	case 3, 4:
		return ordered && plain && len(p.Owes) == 0 && len(p.Takes) > 0
	case 5:
		may := p.Order == 0 && plain && len(p.Owes) == 0 && p.From == 0
		return may && int(p.Sku) < skus && int(p.To) < wares && p.Qty >= 1 && waitersMayBe(p)
	case 6:
		may := p.Order == 0 && plain && len(p.Owes) == 0 && len(p.Takes) == 0
		return may && int(p.Sku) < skus && int(p.From) < wares && int(p.To) < wares && p.From != p.To && p.Qty >= 1
	}
	return false
}

// wantSteps is Steps by the chapter's words.
func wantSteps(p api.Program) []api.Step {
	if !mayBe(4, 4, p) {
		return nil
	}
	switch p.Kind {
	case 5:
		l := []api.Step{{Tag: 5, Ware: p.To, Items: []api.Line{line(p.Sku, p.Qty)}}}
		all := int64(0)
		for _, x := range p.Takes {
			all += x.Qty
		}
		if all > 0 {
			l = append(l, api.Step{Tag: 1, Ware: p.To, Items: []api.Line{line(p.Sku, all)}}, api.Step{Tag: 8, Items: []api.Line{line(p.Sku, all)}})
		}
		return l
	case 6:
		item := []api.Line{line(p.Sku, p.Qty)}
		return []api.Step{{Tag: 6, Ware: p.From, Items: item}, {Tag: 5, Ware: p.To, Items: item}}
	}
	var l []api.Step
	for ware := range uint8(4) {
		s := api.Step{Tag: []uint8{0, 1, 2, 3, 4}[p.Kind], Ware: ware}
		for _, x := range p.Takes {
			if x.Ware == ware {
				s.Items = append(s.Items, line(x.Sku, x.Qty))
			}
		}
		if len(s.Items) > 0 {
			l = append(l, s)
		}
	}
	if len(p.Owes) > 0 {
		l = append(l, api.Step{Tag: []uint8{0, 7, 8}[p.Kind], Items: p.Owes})
	}
	return l
}

// text is bytes put together, number by number.
type text []byte

func (b text) num(x uint64, size int) text {
	for range size {
		b = append(b, byte(x))
		x /= 256
	}
	return b
}

func (b text) lines(l []api.Line) text {
	b = b.num(uint64(len(l)), 1)
	for _, x := range l {
		b = b.num(uint64(x.Sku), 1).num(uint64(x.Qty), 8)
	}
	return b
}

// wantBytes is a program's bytes by the chapter's words, whether it may be or not.
func wantBytes(p api.Program) []byte {
	b := text(nil).num(uint64(p.Kind), 1).num(uint64(p.Order), 4).num(uint64(p.Policy), 1).lines(p.Lines)
	b = b.num(uint64(len(p.Takes)), 1)
	for _, x := range p.Takes {
		b = b.num(uint64(x.Order), 4).num(uint64(x.Sku), 1).num(uint64(x.Ware), 1).num(uint64(x.Qty), 8)
	}
	return b.lines(p.Owes).num(uint64(p.Sku), 1).num(uint64(p.From), 1).num(uint64(p.To), 1).num(uint64(p.Qty), 8)
}

// all is every thing that two programs may differ in.
func all(p api.Program) string { return string(wantBytes(p)) }

// own is a program with lists of its own, made without Copy.
func own(p api.Program) api.Program {
	p.Lines = append([]api.Line{}, p.Lines...)
	p.Takes = append([]api.Take{}, p.Takes...)
	p.Owes = append([]api.Line{}, p.Owes...)
	return p
}

// someTakes are takes that may be.
func someTakes(r *rand.Rand, order uint32, skus, wares int) []api.Take {
	var l []api.Take
	for ware := range wares {
		n := 0
		for sku := range skus {
			if n < 3 && r.Intn(3) == 0 {
				n++
				l = append(l, take(order, uint8(sku), uint8(ware), r.Int63n(1<<40)+1))
			}
		}
	}
	return l
}

// someLines are lines that may be.
func someLines(r *rand.Rand, skus int) []api.Line {
	var l []api.Line
	for sku := range skus {
		if len(l) < 3 && r.Intn(3) == 0 {
			l = append(l, line(uint8(sku), r.Int63n(1<<40)+1))
		}
	}
	return l
}

// sums are lines with what takes and owes have, article by article.
func sums(takes []api.Take, owes []api.Line) []api.Line {
	var l []api.Line
	for sku := range uint8(4) {
		n := int64(0)
		for _, x := range takes {
			if x.Sku == sku {
				n += x.Qty
			}
		}
		for _, x := range owes {
			if x.Sku == sku {
				n += x.Qty
			}
		}
		if n > 0 {
			l = append(l, line(sku, n))
		}
	}
	return l
}

// someWaiters are takes of a restocking.
func someWaiters(r *rand.Rand, p *api.Program) {
	orders := r.Perm(40)
	for range r.Intn(13) {
		x := take(uint32(orders[0]+1), p.Sku, p.To, r.Int63n(9)+1)
		orders = orders[1:]
		p.Takes = append(p.Takes, x)
		p.Qty += x.Qty
	}
}

// some is a program of a kind, which mostly may be.
func some(r *rand.Rand, kind uint8, skus, wares int) api.Program {
	p := api.Program{Kind: kind}
	if kind <= 4 {
		p.Order = r.Uint32()>>r.Intn(32) + 1
		p.Takes = someTakes(r, p.Order, skus, wares)
	}
	switch kind {
	case 1:
		p.Policy = uint8(r.Intn(2))
		if p.Policy == 0 {
			p.Owes = someLines(r, skus)
		}
		p.Lines = sums(p.Takes, p.Owes)
	case 2:
		p.Owes = someLines(r, skus)
	case 5:
		p.Sku, p.To, p.Qty = uint8(r.Intn(skus)), uint8(r.Intn(wares)), r.Int63n(3)
		someWaiters(r, &p)
	case 6:
		p.Sku, p.From, p.To, p.Qty = uint8(r.Intn(skus)), uint8(r.Intn(wares)), uint8(r.Intn(wares)), r.Int63n(1<<50)
	}
	return p
}

// goods are programs of all kinds that may be, of 4 articles and 4 warehouses at most.
func goods() []api.Program {
	r := rand.New(rand.NewSource(13))
	var l []api.Program
	for len(l) < 3000 {
		p := some(r, kinds()[r.Intn(6)], r.Intn(4)+1, r.Intn(4)+1)
		if mayBe(4, 4, p) {
			l = append(l, p)
		}
	}
	return append(l, greatestOnes()...)
}

// greatestOnes are programs at the limits.
func greatestOnes() []api.Program {
	var takes, waiters []api.Take
	for i := range 12 {
		takes = append(takes, take(math.MaxUint32, uint8(i%3+1), uint8(i/3), greatest))
		waiters = append(waiters, take(uint32(math.MaxUint32-i), 3, 3, greatest/12))
	}
	owes := []api.Line{line(1, greatest), line(2, greatest), line(3, greatest)}
	halves := slices.Clone(takes)
	for i := range halves {
		halves[i].Qty = greatest / 4
	}
	return []api.Program{
		{Kind: api.RqPlace, Order: 1, Lines: []api.Line{line(3, greatest)}, Takes: []api.Take{take(1, 3, 0, greatest)}},
		{Kind: api.RqPlace, Order: 1, Policy: api.PoWhole, Lines: owes, Takes: []api.Take{take(1, 1, 3, greatest), take(1, 2, 3, greatest), take(1, 3, 3, greatest)}},
		{Kind: api.RqPlace, Order: 1, Lines: owes, Owes: owes},
		{Kind: api.RqPlace, Order: math.MaxUint32, Lines: owes, Takes: halves, Owes: []api.Line{line(1, 3), line(2, 3), line(3, 3)}},
		{Kind: api.RqCancel, Order: math.MaxUint32, Takes: takes, Owes: owes},
		{Kind: api.RqCancel, Order: 7, Owes: owes},
		{Kind: api.RqShip, Order: math.MaxUint32, Takes: takes},
		{Kind: api.RqReturn, Order: math.MaxUint32, Takes: takes},
		{Kind: api.RqRestock, Sku: 3, To: 3, Qty: greatest, Takes: waiters},
		{Kind: api.RqRestock, Sku: 3, To: 3, Qty: greatest / 12 * 12, Takes: waiters},
		{Kind: api.RqTransfer, Sku: 3, From: 3, To: 2, Qty: greatest},
	}
}

// spoil changes one thing of a program.
func spoil(r *rand.Rand, p api.Program) api.Program {
	p = own(p)
	bytes := []uint8{0, 1, 2, 3, 4, 5, 127, 128, 255}
	qtys := []int64{least, -1, 0, 1, 2, 9, 1 << 20, greatest - 1, greatest}
	ids := []uint32{0, 1, 2, math.MaxUint32}
	a, q, id := bytes[r.Intn(len(bytes))], qtys[r.Intn(len(qtys))], ids[r.Intn(len(ids))]
	switch r.Intn(14) {
	case 0:
		p.Kind = a
	case 1:
		p.Order = id
	case 2:
		p.Policy = a
	case 3:
		p.Sku = a
	case 4:
		p.From = a
	case 5:
		p.To = a
	case 6:
		p.Qty = q
	case 7:
		p.Lines = append(p.Lines, line(a, q))
	case 8:
		p.Owes = append(p.Owes, line(a, q))
	case 9:
		p.Takes = slices.Insert(p.Takes, r.Intn(len(p.Takes)+1), take(p.Order, a%8, bytes[r.Intn(9)]%8, r.Int63n(9)))
	case 10:
		p.Takes = spoilTake(r, p.Takes, a, q, id)
	case 11:
		p.Lines = spoilLine(r, p.Lines, a, q)
	case 12:
		p.Owes = spoilLine(r, p.Owes, a, q)
	case 13:
		p.Lines = sums(p.Takes, p.Owes)
	}
	return p
}

// spoilTake changes one thing of takes.
func spoilTake(r *rand.Rand, l []api.Take, a uint8, q int64, id uint32) []api.Take {
	if len(l) == 0 {
		return l
	}
	i, j := r.Intn(len(l)), r.Intn(len(l))
	switch r.Intn(7) {
	case 0:
		l[i].Order = id
	case 1:
		l[i].Sku = a
	case 2:
		l[i].Ware = a
	case 3:
		l[i].Qty = q
	case 4:
		l[i], l[j] = l[j], l[i]
	case 5:
		l[i] = l[j]
	case 6:
		l = slices.Delete(l, i, i+1)
	}
	return l
}

// spoilLine changes one thing of lines.
func spoilLine(r *rand.Rand, l []api.Line, a uint8, q int64) []api.Line {
	if len(l) == 0 {
		return l
	}
	i, j := r.Intn(len(l)), r.Intn(len(l))
	switch r.Intn(5) {
	case 0:
		l[i].Sku = a
	case 1:
		l[i].Qty = q
	case 2:
		l[i], l[j] = l[j], l[i]
	case 3:
		l[i] = l[j]
	case 4:
		l = slices.Delete(l, i, i+1)
	}
	return l
}

// spoilt are programs of which many may not be.
func spoilt() []api.Program {
	r := rand.New(rand.NewSource(131))
	l := []api.Program{{}}
	for _, p := range goods() {
		for range 6 {
			q := spoil(r, p)
			l = append(l, q, spoil(r, q))
		}
	}
	return l
}

// sameSteps tells whether two lists of steps are the same.
func sameSteps(a, b []api.Step) bool { return slices.EqualFunc(a, b, step.Same) }

// P13.1

func TestGoodPlace(t *testing.T) {
	one, two := []api.Line{line(0, 5)}, []api.Line{line(0, 5), line(2, 1)}
	takes := []api.Take{take(9, 0, 1, 3)}
	owes := []api.Line{line(0, 2)}
	ok := api.Program{Kind: api.RqPlace, Order: 9, Lines: one, Takes: takes, Owes: owes}
	cases := []struct {
		what string
		p    api.Program
		want bool
	}{
		{"the chapter's example", ok, true},
		{"no order", api.Program{Kind: 1, Lines: one, Takes: []api.Take{take(0, 0, 1, 3)}, Owes: owes}, false},
		{"owed alone", api.Program{Kind: 1, Order: 9, Lines: one, Owes: one}, true},
		{"taken alone", api.Program{Kind: 1, Order: 9, Lines: one, Takes: []api.Take{take(9, 0, 1, 5)}}, true},
		{"whole", api.Program{Kind: 1, Order: 9, Policy: 1, Lines: one, Takes: []api.Take{take(9, 0, 1, 5)}}, true},
		{"whole, at two warehouses", api.Program{Kind: 1, Order: 9, Policy: 1, Lines: one, Takes: []api.Take{take(9, 0, 1, 2), take(9, 0, 2, 3)}}, true},
		{"whole, and owed", api.Program{Kind: 1, Order: 9, Policy: 1, Lines: one, Takes: takes, Owes: owes}, false},
		{"whole, and all owed", api.Program{Kind: 1, Order: 9, Policy: 1, Lines: one, Owes: one}, false},
		{"no such policy", api.Program{Kind: 1, Order: 9, Policy: 2, Lines: one, Takes: takes, Owes: owes}, false},
		{"no lines", api.Program{Kind: 1, Order: 9}, false},
		{"no lines, but takes", api.Program{Kind: 1, Order: 9, Takes: takes}, false},
		{"nothing taken or owed", api.Program{Kind: 1, Order: 9, Lines: one}, false},
		{"too little", api.Program{Kind: 1, Order: 9, Lines: one, Takes: takes, Owes: []api.Line{line(0, 1)}}, false},
		{"too much", api.Program{Kind: 1, Order: 9, Lines: one, Takes: takes, Owes: []api.Line{line(0, 3)}}, false},
		{"nothing of the second article", api.Program{Kind: 1, Order: 9, Lines: two, Takes: takes, Owes: owes}, false},
		{"an article that lines don't name is owed", api.Program{Kind: 1, Order: 9, Lines: one, Takes: takes, Owes: []api.Line{line(0, 2), line(2, 1)}}, false},
		{"an article that lines don't name is taken", api.Program{Kind: 1, Order: 9, Lines: one, Takes: append(slices.Clone(takes), take(9, 1, 1, 1)), Owes: owes}, false},
		{"a take of another order", api.Program{Kind: 1, Order: 9, Lines: one, Takes: []api.Take{take(8, 0, 1, 3)}, Owes: owes}, false},
		{"more than 64 bits", api.Program{Kind: 1, Order: 9, Lines: []api.Line{line(0, greatest)}, Takes: []api.Take{take(9, 0, 0, greatest), take(9, 0, 1, greatest), take(9, 0, 2, 1)}}, false},
		{"round to what lines name", api.Program{Kind: 1, Order: 9, Lines: []api.Line{line(0, 5)}, Takes: []api.Take{take(9, 0, 0, greatest), take(9, 0, 1, greatest), take(9, 0, 2, 7)}}, false},
		{"lines that fall", api.Program{Kind: 1, Order: 9, Lines: []api.Line{line(1, 1), line(0, 1)}, Owes: []api.Line{line(0, 1), line(1, 1)}}, false},
		{"owes that fall", api.Program{Kind: 1, Order: 9, Lines: []api.Line{line(0, 1), line(1, 1)}, Owes: []api.Line{line(1, 1), line(0, 1)}}, false},
		{"a line twice", api.Program{Kind: 1, Order: 9, Lines: []api.Line{line(0, 1), line(0, 1)}, Owes: []api.Line{line(0, 2)}}, false},
		{"owed twice", api.Program{Kind: 1, Order: 9, Lines: []api.Line{line(0, 2)}, Owes: []api.Line{line(0, 1), line(0, 1)}}, false},
		{"a line of none", api.Program{Kind: 1, Order: 9, Lines: []api.Line{line(0, 1), line(1, 0)}, Owes: []api.Line{line(0, 1)}}, false},
		{"none owed", api.Program{Kind: 1, Order: 9, Lines: []api.Line{line(0, 1)}, Takes: []api.Take{take(9, 0, 0, 1)}, Owes: []api.Line{line(1, 0)}}, false},
		{"none taken", api.Program{Kind: 1, Order: 9, Lines: []api.Line{line(0, 1)}, Takes: []api.Take{take(9, 0, 0, 0)}, Owes: []api.Line{line(0, 1)}}, false},
		{"less than none taken", api.Program{Kind: 1, Order: 9, Lines: []api.Line{line(0, 1)}, Takes: []api.Take{take(9, 0, 0, -1)}, Owes: []api.Line{line(0, 2)}}, false},
		{"four lines", api.Program{Kind: 1, Order: 9, Lines: []api.Line{line(0, 1), line(1, 1), line(2, 1), line(3, 1)}, Owes: []api.Line{line(0, 1), line(1, 1), line(2, 1)}, Takes: []api.Take{take(9, 3, 0, 1)}}, false},
		{"an article", api.Program{Kind: 1, Order: 9, Lines: one, Takes: takes, Owes: owes, Sku: 1}, false},
		{"where from", api.Program{Kind: 1, Order: 9, Lines: one, Takes: takes, Owes: owes, From: 1}, false},
		{"where to", api.Program{Kind: 1, Order: 9, Lines: one, Takes: takes, Owes: owes, To: 1}, false},
		{"how many", api.Program{Kind: 1, Order: 9, Lines: one, Takes: takes, Owes: owes, Qty: 1}, false},
	}
	for _, c := range cases {
		if is := Good(3, 3, c.p); is != c.want {
			t.Errorf("%s: Good(3, 3, %v) is %t", c.what, c.p, is)
		}
	}
}

func TestGoodOfOrders(t *testing.T) {
	takes := []api.Take{take(9, 1, 0, 1), take(9, 0, 1, 1), take(9, 2, 1, 1)}
	owes := []api.Line{line(0, 4), line(1, 1)}
	cases := []struct {
		what   string
		p      api.Program
		cancel bool
		ship   bool
	}{
		{"takes", api.Program{Order: 9, Takes: takes}, true, true},
		{"one take", api.Program{Order: 9, Takes: takes[2:]}, true, true},
		{"takes and owes", api.Program{Order: 9, Takes: takes, Owes: owes}, true, false},
		{"owes alone", api.Program{Order: 9, Owes: owes}, true, false},
		{"nothing", api.Program{Order: 9}, false, false},
		{"no order", api.Program{Takes: []api.Take{take(0, 1, 0, 1)}}, false, false},
		{"no order, and owes", api.Program{Owes: owes}, false, false},
		{"another order's take", api.Program{Order: 9, Takes: append(slices.Clone(takes), take(8, 2, 2, 1))}, false, false},
		{"takes of articles first", api.Program{Order: 9, Takes: []api.Take{take(9, 0, 1, 1), take(9, 1, 0, 1)}}, false, false},
		{"a take twice", api.Program{Order: 9, Takes: []api.Take{take(9, 0, 1, 1), take(9, 0, 1, 1)}}, false, false},
		{"articles that fall", api.Program{Order: 9, Takes: []api.Take{take(9, 2, 1, 1), take(9, 1, 1, 1)}}, false, false},
		{"an article of each warehouse", api.Program{Order: 9, Takes: []api.Take{take(9, 2, 0, 1), take(9, 2, 1, 1), take(9, 2, 2, 1)}}, true, true},
		{"a warehouse again", api.Program{Order: 9, Takes: []api.Take{take(9, 0, 0, 1), take(9, 0, 1, 1), take(9, 1, 0, 1)}}, false, false},
		{"an article too many", api.Program{Order: 9, Takes: []api.Take{take(9, 3, 0, 1)}}, false, false},
		{"a warehouse too many", api.Program{Order: 9, Takes: []api.Take{take(9, 0, 3, 1)}}, false, false},
		{"none", api.Program{Order: 9, Takes: []api.Take{take(9, 0, 0, 0)}}, false, false},
		{"owes that fall", api.Program{Order: 9, Takes: takes, Owes: []api.Line{line(1, 1), line(0, 1)}}, false, false},
		{"an article too many owed", api.Program{Order: 9, Owes: []api.Line{line(3, 1)}}, false, false},
		{"none owed", api.Program{Order: 9, Owes: []api.Line{line(0, 0)}}, false, false},
		{"lines", api.Program{Order: 9, Takes: takes, Lines: owes}, false, false},
		{"a policy", api.Program{Order: 9, Takes: takes, Policy: 1}, false, false},
		{"how many", api.Program{Order: 9, Takes: takes, Qty: 1}, false, false},
	}
	for _, c := range cases {
		for _, kind := range []uint8{api.RqCancel, api.RqShip, api.RqReturn} {
			c.p.Kind = kind
			want := c.ship
			if kind == api.RqCancel {
				want = c.cancel
			}
			if is := Good(3, 3, c.p); is != want {
				t.Errorf("%s: Good(3, 3, %v) is %t", c.what, c.p, is)
			}
		}
	}
}

func TestGoodOfFourArticlesOfOneWarehouse(t *testing.T) {
	three := []api.Take{take(1, 0, 2, 1), take(1, 1, 2, 1), take(1, 3, 2, 1)}
	four := slices.Insert(slices.Clone(three), 2, take(1, 2, 2, 1))
	for _, kind := range []uint8{api.RqCancel, api.RqShip, api.RqReturn} {
		if !Good(4, 4, api.Program{Kind: kind, Order: 1, Takes: three}) || Good(4, 4, api.Program{Kind: kind, Order: 1, Takes: four}) {
			t.Errorf("of kind %d: three may not be, or four may", kind)
		}
	}
}

func TestGoodRestock(t *testing.T) {
	five, three := take(5, 1, 2, 4), take(3, 1, 2, 5)
	cases := []struct {
		what string
		p    api.Program
		want bool
	}{
		{"nobody waits", api.Program{Sku: 1, To: 2, Qty: 1}, true},
		{"all of it", api.Program{Sku: 1, To: 2, Qty: 9, Takes: []api.Take{five, three}}, true},
		{"the other way round", api.Program{Sku: 1, To: 2, Qty: 9, Takes: []api.Take{three, five}}, true},
		{"a part of it", api.Program{Sku: 1, To: 2, Qty: 10, Takes: []api.Take{five, three}}, true},
		{"more than it", api.Program{Sku: 1, To: 2, Qty: 8, Takes: []api.Take{five, three}}, false},
		{"an order twice", api.Program{Sku: 1, To: 2, Qty: 20, Takes: []api.Take{five, three, five}}, false},
		{"no order", api.Program{Sku: 1, To: 2, Qty: 20, Takes: []api.Take{take(0, 1, 2, 1)}}, false},
		{"another article", api.Program{Sku: 1, To: 2, Qty: 20, Takes: []api.Take{five, take(3, 0, 2, 1)}}, false},
		{"another warehouse", api.Program{Sku: 1, To: 2, Qty: 20, Takes: []api.Take{five, take(3, 1, 1, 1)}}, false},
		{"none", api.Program{Sku: 1, To: 2, Qty: 20, Takes: []api.Take{five, take(3, 1, 2, 0)}}, false},
		{"less than none", api.Program{Sku: 1, To: 2, Qty: 20, Takes: []api.Take{five, take(3, 1, 2, -1)}}, false},
		{"more than 64 bits", api.Program{Sku: 1, To: 2, Qty: greatest, Takes: []api.Take{take(5, 1, 2, greatest), take(3, 1, 2, greatest)}}, false},
		{"more than 64 bits, round to little", api.Program{Sku: 1, To: 2, Qty: greatest, Takes: []api.Take{take(5, 1, 2, greatest), take(3, 1, 2, greatest), take(4, 1, 2, 3)}}, false},
		{"nothing comes", api.Program{Sku: 1, To: 2}, false},
		{"less than nothing comes", api.Program{Sku: 1, To: 2, Qty: -1}, false},
		{"an article too many", api.Program{Sku: 3, To: 2, Qty: 1}, false},
		{"a warehouse too many", api.Program{Sku: 1, To: 3, Qty: 1}, false},
		{"an order of its own", api.Program{Order: 1, Sku: 1, To: 2, Qty: 1}, false},
		{"where from", api.Program{From: 1, Sku: 1, To: 2, Qty: 1}, false},
		{"owes", api.Program{Sku: 1, To: 2, Qty: 1, Owes: []api.Line{line(1, 1)}}, false},
		{"lines", api.Program{Sku: 1, To: 2, Qty: 1, Lines: []api.Line{line(1, 1)}}, false},
		{"a policy", api.Program{Sku: 1, To: 2, Qty: 1, Policy: 1}, false},
	}
	for _, c := range cases {
		c.p.Kind = api.RqRestock
		if is := Good(3, 3, c.p); is != c.want {
			t.Errorf("%s: Good(3, 3, %v) is %t", c.what, c.p, is)
		}
	}
}

func TestGoodRestockOfManyOrders(t *testing.T) {
	p := api.Program{Kind: api.RqRestock, Qty: 100}
	for i := range 14 {
		if is := Good(1, 1, p); is != (i <= api.MaxTakes) {
			t.Errorf("with %d takes: %t", i, is)
		}
		p.Takes = append(p.Takes, take(uint32(99-i), 0, 0, 1))
	}
}

func TestGoodTransfer(t *testing.T) {
	cases := []struct {
		what string
		p    api.Program
		want bool
	}{
		{"to", api.Program{To: 1, Qty: 1}, true},
		{"from", api.Program{From: 1, Qty: 1}, true},
		{"the last ones", api.Program{Sku: 2, From: 1, To: 2, Qty: greatest}, true},
		{"none", api.Program{From: 1}, false},
		{"less than none", api.Program{From: 1, Qty: -1}, false},
		{"the least number", api.Program{From: 1, Qty: least}, false},
		{"where it is", api.Program{From: 1, To: 1, Qty: 1}, false},
		{"an article too many", api.Program{Sku: 3, From: 1, Qty: 1}, false},
		{"from a warehouse too many", api.Program{From: 3, Qty: 1}, false},
		{"to a warehouse too many", api.Program{To: 3, Qty: 1}, false},
		{"an order", api.Program{Order: 1, To: 1, Qty: 1}, false},
		{"takes", api.Program{To: 1, Qty: 1, Takes: []api.Take{take(1, 0, 1, 1)}}, false},
		{"owes", api.Program{To: 1, Qty: 1, Owes: []api.Line{line(0, 1)}}, false},
		{"lines", api.Program{To: 1, Qty: 1, Lines: []api.Line{line(0, 1)}}, false},
		{"a policy", api.Program{To: 1, Qty: 1, Policy: 1}, false},
	}
	for _, c := range cases {
		c.p.Kind = api.RqTransfer
		if is := Good(3, 3, c.p); is != c.want {
			t.Errorf("%s: Good(3, 3, %v) is %t", c.what, c.p, is)
		}
	}
}

func TestGoodOfEachKind(t *testing.T) {
	for _, p := range goods() {
		for kind := range 256 {
			q := p
			q.Kind = uint8(kind)
			if is := Good(4, 4, q); is != mayBe(4, 4, q) || is && (kind < 1 || kind > 6) {
				t.Fatalf("Good(4, 4, %v) is %t", q, is)
			}
		}
	}
}

func TestGoodGoesByTheWords(t *testing.T) {
	seen := map[bool]int{}
	for _, p := range append(goods(), spoilt()...) {
		for _, skus := range []int{1, 2, 3, 4} {
			for _, wares := range []int{1, 2, 3, 4} {
				want := mayBe(skus, wares, p)
				seen[want]++
				if is := Good(skus, wares, p); is != want {
					t.Fatalf("Good(%d, %d, %v) is %t", skus, wares, p, is)
				}
			}
		}
	}
	if seen[true] < 10000 || seen[false] < 10000 {
		t.Errorf("good and not: %v", seen)
	}
}

func TestGoodOfSoManyArticlesAndWarehouses(t *testing.T) {
	for _, p := range greatestOnes() {
		for _, skus := range numbers() {
			for _, wares := range numbers() {
				if is := Good(skus, wares, p); is != mayBe(skus, wares, p) {
					t.Errorf("Good(%d, %d, %v) is %t", skus, wares, p, is)
				}
			}
		}
	}
}

// long are programs with very long lists.
func long() []api.Program {
	takes := slices.Repeat([]api.Take{take(1, 0, 0, 1)}, 1<<18)
	lines := slices.Repeat([]api.Line{line(0, 1)}, 1<<18)
	waiters := slices.Clone(takes)
	for i := range waiters {
		waiters[i].Order = uint32(i + 1)
	}
	var l []api.Program
	for kind := range uint8(9) {
		l = append(l, api.Program{Kind: kind, Order: 1, Lines: lines, Takes: takes, Owes: lines}, api.Program{Kind: kind, Order: 1, Takes: takes}, api.Program{Kind: kind, Qty: greatest, Takes: waiters})
	}
	return l
}

func TestGoodOfVeryLongLists(t *testing.T) {
	for _, p := range long() {
		if _, e := Encode(p); Good(4, 4, p) || len(Steps(p)) != 0 || e != api.ErrArg {
			t.Errorf("of kind %d, %d, %d, and %d may be", p.Kind, len(p.Lines), len(p.Takes), len(p.Owes))
		}
		if !Same(p, Copy(p)) {
			t.Errorf("of kind %d: a copy is not the same", p.Kind)
		}
	}
}

// P13.2

func TestSteps(t *testing.T) {
	takes := []api.Take{take(9, 0, 1, 3), take(9, 2, 1, 4), take(9, 1, 3, 5)}
	at := func(tag uint8) []api.Step {
		return []api.Step{{Tag: tag, Ware: 1, Items: []api.Line{line(0, 3), line(2, 4)}}, {Tag: tag, Ware: 3, Items: []api.Line{line(1, 5)}}}
	}
	owes := []api.Line{line(0, 2), line(3, 1)}
	cases := []struct {
		what string
		p    api.Program
		want []api.Step
	}{
		{"the chapter's example", api.Program{Kind: api.RqPlace, Order: 9, Lines: []api.Line{line(0, 5)}, Takes: takes[:1], Owes: owes[:1]}, []api.Step{{Tag: api.TgTake, Ware: 1, Items: []api.Line{line(0, 3)}}, {Tag: api.TgOwe, Items: []api.Line{line(0, 2)}}}},
		{"placing", api.Program{Kind: api.RqPlace, Order: 9, Policy: 1, Lines: []api.Line{line(0, 3), line(1, 5), line(2, 4)}, Takes: takes}, at(api.TgTake)},
		{"owing", api.Program{Kind: api.RqPlace, Order: 9, Lines: owes, Owes: owes}, []api.Step{{Tag: api.TgOwe, Items: owes}}},
		{"cancelling", api.Program{Kind: api.RqCancel, Order: 9, Takes: takes, Owes: owes}, append(at(api.TgFree), api.Step{Tag: api.TgPay, Items: owes})},
		{"cancelling what is held", api.Program{Kind: api.RqCancel, Order: 9, Takes: takes}, at(api.TgFree)},
		{"cancelling what is owed", api.Program{Kind: api.RqCancel, Order: 9, Owes: owes}, []api.Step{{Tag: api.TgPay, Items: owes}}},
		{"shipping", api.Program{Kind: api.RqShip, Order: 9, Takes: takes}, at(api.TgSend)},
		{"taking back", api.Program{Kind: api.RqReturn, Order: 9, Takes: takes}, at(api.TgBack)},
		{"restocking", api.Program{Kind: api.RqRestock, Sku: 2, To: 3, Qty: 8}, []api.Step{{Tag: api.TgPut, Ware: 3, Items: []api.Line{line(2, 8)}}}},
		{"restocking for some", api.Program{Kind: api.RqRestock, Sku: 2, To: 3, Qty: 8, Takes: []api.Take{take(6, 2, 3, 1), take(4, 2, 3, 5)}}, []api.Step{{Tag: api.TgPut, Ware: 3, Items: []api.Line{line(2, 8)}}, {Tag: api.TgTake, Ware: 3, Items: []api.Line{line(2, 6)}}, {Tag: api.TgPay, Items: []api.Line{line(2, 6)}}}},
		{"moving", api.Program{Kind: api.RqTransfer, Sku: 1, From: 3, To: 2, Qty: 7}, []api.Step{{Tag: api.TgDraw, Ware: 3, Items: []api.Line{line(1, 7)}}, {Tag: api.TgPut, Ware: 2, Items: []api.Line{line(1, 7)}}}},
		{"what may not be", api.Program{Kind: api.RqTransfer, Sku: 1, From: 3, To: 3, Qty: 7}, nil},
		{"a query", api.Program{Kind: api.RqQuery}, nil},
		{"nothing", api.Program{}, nil},
	}
	for _, c := range cases {
		if l := Steps(c.p); !sameSteps(l, c.want) {
			t.Errorf("%s: %v; want %v", c.what, l, c.want)
		}
	}
}

func TestStepsGoByTheWords(t *testing.T) {
	for _, p := range append(goods(), spoilt()...) {
		if l, want := Steps(p), wantSteps(p); !sameSteps(l, want) {
			t.Fatalf("Steps(%v) are %v; want %v", p, l, want)
		}
	}
}

// P13.3

func TestOrders(t *testing.T) {
	waiters := []api.Take{take(5, 1, 2, 4), take(3, 1, 2, 5), take(math.MaxUint32, 1, 2, 1)}
	cases := []struct {
		p    api.Program
		want []uint32
	}{
		{api.Program{Kind: api.RqPlace, Order: 9, Lines: []api.Line{line(0, 5)}, Takes: []api.Take{take(9, 0, 1, 5)}}, []uint32{9}},
		{api.Program{Kind: api.RqCancel, Order: math.MaxUint32, Owes: []api.Line{line(0, 5)}}, []uint32{math.MaxUint32}},
		{api.Program{Kind: api.RqRestock, Sku: 1, To: 2, Qty: 10, Takes: waiters}, []uint32{5, 3, math.MaxUint32}},
		{api.Program{Kind: api.RqRestock, Sku: 1, To: 2, Qty: 10}, nil},
		{api.Program{Kind: api.RqTransfer, To: 2, Qty: 10}, nil},
		{api.Program{Kind: api.RqCancel, Order: 1, Owes: []api.Line{line(0, 5)}}, []uint32{1}},
		// Programs that may not be.
		{api.Program{}, nil},
		{api.Program{Order: 4, Takes: waiters}, []uint32{4}},
		{api.Program{Kind: 77, Takes: waiters[1:]}, []uint32{3, math.MaxUint32}},
		{api.Program{Takes: []api.Take{take(2, 9, 9, 0), take(1, 0, 0, -4)}}, []uint32{2, 1}},
	}
	for _, c := range cases {
		if l := Orders(c.p); !slices.Equal(l, c.want) {
			t.Errorf("Orders(%v) are %v; want %v", c.p, l, c.want)
		}
	}
}

// P13.4

func TestEncode(t *testing.T) {
	p := api.Program{Kind: api.RqPlace, Order: 0x01020304, Lines: []api.Line{line(2, 5)}, Takes: []api.Take{take(0x01020304, 2, 1, 3)}, Owes: []api.Line{line(2, 2)}}
	want := []byte{1, 4, 3, 2, 1, 0, 1, 2, 5, 0, 0, 0, 0, 0, 0, 0, 1, 4, 3, 2, 1, 2, 1, 3, 0, 0, 0, 0, 0, 0, 0, 1, 2, 2, 0, 0, 0, 0, 0, 0, 0, 0, 0, 0, 0, 0, 0, 0, 0, 0, 0, 0}
	if b, e := Encode(p); e != api.OK || !slices.Equal(b, want) {
		t.Errorf("%v is %v, error %d; want %v", p, b, e, want)
	}
	p = api.Program{Kind: api.RqTransfer, Sku: 3, From: 2, To: 1, Qty: 0x0102030405060708}
	want = []byte{6, 0, 0, 0, 0, 0, 0, 0, 0, 3, 2, 1, 8, 7, 6, 5, 4, 3, 2, 1}
	if b, e := Encode(p); e != api.OK || !slices.Equal(b, want) {
		t.Errorf("%v is %v, error %d; want %v", p, b, e, want)
	}
}

func TestEncodeGoesByTheWords(t *testing.T) {
	for _, p := range append(goods(), spoilt()...) {
		b, e := Encode(p)
		if !mayBe(4, 4, p) {
			if e != api.ErrArg || len(b) != 0 {
				t.Fatalf("%v may not be, and is %v, error %d", p, b, e)
			}
			continue
		}
		if e != api.OK || !slices.Equal(b, wantBytes(p)) {
			t.Fatalf("%v is %v, error %d; want %v", p, b, e, wantBytes(p))
		}
	}
}

// decodes asks Decode, and holds its answer against an error and a program.
func decodes(t *testing.T, b []byte, p api.Program, want api.Errno) {
	t.Helper()
	got, e := Decode(b)
	if e != want || all(got) != all(p) {
		t.Errorf("%v are %v, error %d; want %v, error %d", b, got, e, p, want)
	}
}

func TestDecodeOfABeginning(t *testing.T) {
	for _, p := range append(greatestOnes(), goods()[:50]...) {
		b := wantBytes(p)
		for n := range b {
			decodes(t, b[:n], api.Program{}, api.ErrShort)
		}
		decodes(t, b, p, api.OK)
		decodes(t, append(slices.Clone(b), 0), api.Program{}, api.ErrForm)
		decodes(t, append(slices.Clone(b), make([]byte, 1<<16)...), api.Program{}, api.ErrForm)
	}
	decodes(t, nil, api.Program{}, api.ErrShort)
}

func TestDecodeOfTooMany(t *testing.T) {
	for _, n := range []byte{4, 5, 12, 13, 128, 255} {
		// Behind such a number nothing is read: neither bytes that lack nor bytes that are left are told ahead of it.
		lines := []byte{1, 1, 0, 0, 0, 0, n}
		takes := []byte{2, 1, 0, 0, 0, 0, 0, n + 9}
		owes := []byte{2, 1, 0, 0, 0, 0, 0, 0, n}
		if n > 246 {
			takes[7] = n
		}
		for _, b := range [][]byte{lines, takes, owes} {
			for _, more := range []int{0, 1, 50, 51, 500, 5000} {
				decodes(t, append(slices.Clone(b), make([]byte, more)...), api.Program{}, api.ErrForm)
			}
		}
	}
	// At the limit bytes lack.
	decodes(t, []byte{1, 1, 0, 0, 0, 0, 3}, api.Program{}, api.ErrShort)
	decodes(t, []byte{2, 1, 0, 0, 0, 0, 0, 12}, api.Program{}, api.ErrShort)
	decodes(t, []byte{2, 1, 0, 0, 0, 0, 0, 0, 3}, api.Program{}, api.ErrShort)
	// What lacks first is told first: the lists behind it have no number.
	decodes(t, []byte{9, 1, 0, 0, 0, 0, 1, 0}, api.Program{}, api.ErrShort)
}

func TestDecodeOfWhatMayNotBe(t *testing.T) {
	seen := map[api.Errno]int{}
	for _, p := range spoilt() {
		if len(p.Lines) > 255 || len(p.Takes) > 255 || len(p.Owes) > 255 {
			continue
		}
		b := wantBytes(p)
		if mayBe(4, 4, p) {
			decodes(t, b, p, api.OK)
			seen[api.OK]++
			continue
		}
		decodes(t, b, api.Program{}, api.ErrForm)
		seen[api.ErrForm]++
	}
	if seen[api.OK] < 1000 || seen[api.ErrForm] < 1000 {
		t.Errorf("good and not: %v", seen)
	}
}

// wantError is what is wrong first with bytes, by the chapter's words; OK, if nothing is wrong with their form.
func wantError(b []byte) api.Errno {
	at := 6
	for _, list := range [][2]int{{3, 9}, {12, 14}, {3, 9}} {
		if len(b) <= at {
			return api.ErrShort
		}
		n := int(b[at])
		if n > list[0] {
			return api.ErrForm
		}
		at += 1 + n*list[1]
	}
	at += 11
	if len(b) < at {
		return api.ErrShort
	}
	if len(b) > at {
		return api.ErrForm
	}
	return api.OK
}

func TestDecodeOfAnyBytes(t *testing.T) {
	r := rand.New(rand.NewSource(134))
	seen := map[api.Errno]int{}
	for _, p := range goods() {
		for range 10 {
			b := wantBytes(p)
			for range r.Intn(3) + 1 {
				b[r.Intn(len(b))] = byte(r.Intn(256)) >> r.Intn(9)
			}
			b = append(b, make([]byte, r.Intn(2)*r.Intn(20))...)
			b = b[:len(b)-r.Intn(2)*r.Intn(len(b))]
			q, e := Decode(b)
			seen[e]++
			if want := wantError(b); want != api.OK && (e != want || all(q) != all(api.Program{})) {
				t.Fatalf("%v are %v, error %d; want error %d", b, q, e, want)
			} else if want == api.OK && e != api.OK && e != api.ErrForm {
				t.Fatalf("%v: error %d", b, e)
			}
			if e == api.OK && (!mayBe(4, 4, q) || !slices.Equal(wantBytes(q), b)) {
				t.Fatalf("%v are %v", b, q)
			}
			if e != api.OK && all(q) != all(api.Program{}) {
				t.Fatalf("with error %d %v are %v", e, b, q)
			}
		}
	}
	if seen[api.OK] < 1000 || seen[api.ErrForm] < 1000 || seen[api.ErrShort] < 1000 || len(seen) != 3 {
		t.Errorf("errors: %v", seen)
	}
}

func TestSame(t *testing.T) {
	p := api.Program{Kind: 1, Order: 2, Policy: 3, Lines: []api.Line{line(4, 5), line(6, 7)}, Takes: []api.Take{take(8, 9, 10, 11), take(12, 13, 14, 15)}, Owes: []api.Line{line(16, 17)}, Sku: 18, From: 19, To: 20, Qty: 21}
	others := []func(q *api.Program){
		func(q *api.Program) { q.Kind = 2 },
		func(q *api.Program) { q.Order = 3 },
		func(q *api.Program) { q.Order += 1 << 31 },
		func(q *api.Program) { q.Policy = 0 },
		func(q *api.Program) { q.Lines = q.Lines[:1] },
		func(q *api.Program) { q.Lines = nil },
		func(q *api.Program) { q.Lines = append(q.Lines, line(0, 0)) },
		func(q *api.Program) { q.Lines[0].Sku = 0 },
		func(q *api.Program) { q.Lines[1].Qty = -7 },
		func(q *api.Program) { q.Takes = q.Takes[1:] },
		func(q *api.Program) { q.Takes = nil },
		func(q *api.Program) { q.Takes = append(q.Takes, take(0, 0, 0, 0)) },
		func(q *api.Program) { q.Takes[0].Order = 12 },
		func(q *api.Program) { q.Takes[1].Sku = 9 },
		func(q *api.Program) { q.Takes[0].Ware = 0 },
		func(q *api.Program) { q.Takes[1].Qty += 1 << 62 },
		func(q *api.Program) { q.Takes[0], q.Takes[1] = q.Takes[1], q.Takes[0] },
		func(q *api.Program) { q.Owes = nil },
		func(q *api.Program) { q.Owes[0].Sku++ },
		func(q *api.Program) { q.Owes[0].Qty = least },
		func(q *api.Program) { q.Lines, q.Owes = q.Owes, q.Lines },
		func(q *api.Program) { q.Sku = 0 },
		func(q *api.Program) { q.From = 20 },
		func(q *api.Program) { q.To = 19 },
		func(q *api.Program) { q.Qty = 0 },
		func(q *api.Program) { *q = api.Program{} },
	}
	if !Same(p, own(p)) || !Same(own(p), p) {
		t.Error("a program is not the same")
	}
	for i, change := range others {
		q := own(p)
		change(&q)
		if Same(p, q) || Same(q, p) || !Same(q, own(q)) {
			t.Errorf("change %d is not seen", i)
		}
	}
	empty := api.Program{Lines: []api.Line{}, Takes: []api.Take{}, Owes: []api.Line{}}
	if !Same(empty, api.Program{}) || !Same(api.Program{}, empty) {
		t.Error("lists without an element are not the same")
	}
}

func TestCopy(t *testing.T) {
	for _, p := range append(goods(), spoilt()...) {
		if c := Copy(p); all(c) != all(p) {
			t.Fatalf("the copy of %v is %v", p, c)
		}
	}
}

// P13.5

func TestWhatIsEncodedIsDecoded(t *testing.T) {
	for _, p := range goods() {
		b, _ := Encode(p)
		q, e := Decode(b)
		if e != api.OK || !Same(p, q) {
			t.Fatalf("%v is %v behind its bytes, error %d", p, q, e)
		}
		if again, e := Encode(q); e != api.OK || !slices.Equal(again, b) {
			t.Fatalf("%v is %v behind its bytes", b, again)
		}
	}
}

func TestStepsMayBe(t *testing.T) {
	seen := map[int]int{}
	for _, p := range goods() {
		for skus := 1; skus <= 4; skus++ {
			for wares := 1; wares <= 4; wares++ {
				if !Good(skus, wares, p) {
					continue
				}
				l := Steps(p)
				seen[len(l)]++
				for _, s := range l {
					if !step.Good(skus, wares, s) {
						t.Fatalf("of %d articles and %d warehouses %v has the step %v", skus, wares, p, s)
					}
				}
			}
		}
	}
	for n := 1; n <= api.MaxSteps; n++ {
		if seen[n] == 0 {
			t.Errorf("no program of %d steps", n)
		}
		delete(seen, n)
	}
	if len(seen) > 0 {
		t.Errorf("programs of so many steps: %v", seen)
	}
}

// Rule 4: what is handed in and out

// room is a program whose lists have room behind them.
func room(p api.Program) api.Program {
	p.Lines = append(make([]api.Line, 0, 20), p.Lines...)
	p.Takes = append(make([]api.Take, 0, 20), p.Takes...)
	p.Owes = append(make([]api.Line, 0, 20), p.Owes...)
	return p
}

// whole is all that lies in a program's lists, and behind them.
func whole(p api.Program) string {
	p.Lines, p.Takes, p.Owes = p.Lines[:cap(p.Lines)], p.Takes[:cap(p.Takes)], p.Owes[:cap(p.Owes)]
	return all(p)
}

// wipe changes all that lies in a program's lists, and behind them.
func wipe(p api.Program) {
	for _, l := range [][]api.Line{p.Lines[:cap(p.Lines)], p.Owes[:cap(p.Owes)]} {
		for i := range l {
			l[i] = line(99, 99)
		}
	}
	for i := range p.Takes[:cap(p.Takes)] {
		p.Takes[:cap(p.Takes)][i] = take(99, 99, 99, 99)
	}
}

func TestProgramsThatAreHandedInAreLeftAlone(t *testing.T) {
	for _, p := range append(goods(), spoilt()[:1000]...) {
		p = room(p)
		was := whole(p)
		Good(4, 4, p)
		Steps(p)
		Orders(p)
		Encode(p)
		Same(p, p)
		Copy(p)
		if whole(p) != was {
			t.Fatalf("a program has become %v", p)
		}
	}
}

func TestStepsThatAreHandedOutAreTheirOwn(t *testing.T) {
	for _, p := range goods() {
		p = room(p)
		was, want := whole(p), wantSteps(own(p))
		a, b, orders := Steps(p), Steps(p), Orders(p)
		for i := range a {
			for j := range a[i].Items[:cap(a[i].Items)] {
				a[i].Items[:cap(a[i].Items)][j] = line(99, 99)
			}
			if i+1 < len(a) && !step.Same(a[i+1], want[i+1]) {
				t.Fatalf("two steps of %v share a list", p)
			}
		}
		wanted := slices.Clone(Orders(p))
		if whole(p) != was || !sameSteps(b, want) {
			t.Fatalf("with steps that are changed, %v has %v", p, b)
		}
		wipe(p)
		if !sameSteps(b, want) || !slices.Equal(orders, wanted) {
			t.Fatalf("steps change with their program: %v", b)
		}
	}
}

func TestCopiesAreTheirOwn(t *testing.T) {
	for _, p := range append(goods(), spoilt()[:1000]...) {
		p = room(p)
		was, want := whole(p), all(p)
		c, d := Copy(p), Copy(p)
		wipe(c)
		if whole(p) != was || all(d) != want {
			t.Fatalf("with its copy, %v is changed", p)
		}
		wipe(p)
		if all(d) != want {
			t.Fatalf("a copy is changed to %v", d)
		}
	}
}

func TestBytesAndWhatTheyTellAreTheirOwn(t *testing.T) {
	for _, p := range goods() {
		b, _ := Encode(p)
		was := slices.Clone(b)
		q, _ := Decode(b)
		other, _ := Decode(b)
		if !slices.Equal(b, was) {
			t.Fatalf("bytes have become %v", b)
		}
		clear(b)
		wipe(other)
		if all(q) != all(p) {
			t.Fatalf("a program changes with its bytes: %v", q)
		}
		wipe(q)
		if again, _ := Encode(p); !slices.Equal(again, was) {
			t.Fatalf("%v changes with others", p)
		}
	}
}
