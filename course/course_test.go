package course

import (
	"fmt"
	"math"
	"slices"
	"testing"

	"pledge/api"
	"pledge/journal"
)

const (
	least    = math.MinInt64
	greatest = math.MaxInt64
	last     = math.MaxUint32
)

func stock(sku, ware uint8) api.Key { return api.Key{Kind: api.KStock, Sku: sku, Ware: ware} }

func held(sku, ware uint8) api.Key { return api.Key{Kind: api.KHeld, Sku: sku, Ware: ware} }

func out(sku uint8) api.Key { return api.Key{Kind: api.KOut, Sku: sku} }

func owed(sku uint8) api.Key { return api.Key{Kind: api.KOwed, Sku: sku} }

func op(k api.Key, delta int64) api.Op { return api.Op{Key: k, Delta: delta} }

func line(sku uint8, qty int64) api.Line { return api.Line{Sku: sku, Qty: qty} }

func take(order uint32, sku, ware uint8, qty int64) api.Take {
	return api.Take{Order: order, Sku: sku, Ware: ware, Qty: qty}
}

func start(saga uint32, p api.Program) api.Rec {
	return api.Rec{Kind: api.RcStart, Saga: saga, Prog: p}
}

func begin(saga, txn uint32, at uint8) api.Rec {
	return api.Rec{Kind: api.RcBegin, Saga: saga, Txn: txn, Step: at}
}

func beginBack(saga, txn uint32, at uint8) api.Rec {
	return api.Rec{Kind: api.RcBegin, Saga: saga, Txn: txn, Step: at, Comp: true}
}

func add(txn uint32, o api.Op) api.Rec {
	return api.Rec{Kind: api.RcAdd, Txn: txn, Key: o.Key, Delta: o.Delta}
}

func undo(txn uint32, o api.Op) api.Rec {
	return api.Rec{Kind: api.RcUndo, Txn: txn, Key: o.Key, Delta: o.Delta}
}

func commit(txn uint32) api.Rec { return api.Rec{Kind: api.RcCommit, Txn: txn} }

func abort(txn uint32) api.Rec { return api.Rec{Kind: api.RcAbort, Txn: txn} }

func gone(txn uint32) api.Rec { return api.Rec{Kind: api.RcGone, Txn: txn} }

func turnBack(saga uint32) api.Rec { return api.Rec{Kind: api.RcBack, Saga: saga} }

func done(saga uint32, o uint8) api.Rec { return api.Rec{Kind: api.RcDone, Saga: saga, Out: o} }

// plan is a program, and what each of its steps adds, forth and back.
type plan struct {
	prog  api.Program
	forth [][]api.Op
	back  [][]api.Op
}

// plans are programs of each kind, with one step and with as many as there may be.
func plans() []plan {
	return []plan{
		{
			api.Program{Kind: api.RqTransfer, Sku: 1, From: 0, To: 2, Qty: 4},
			[][]api.Op{{op(stock(1, 0), -4)}, {op(stock(1, 2), 4)}},
			[][]api.Op{{op(stock(1, 0), 4)}, {op(stock(1, 2), -4)}},
		},
		{
			api.Program{Kind: api.RqRestock, Sku: 3, To: 3, Qty: greatest},
			[][]api.Op{{op(stock(3, 3), greatest)}},
			[][]api.Op{{op(stock(3, 3), -greatest)}},
		},
		{
			api.Program{Kind: api.RqRestock, Sku: 2, To: 1, Qty: 9, Takes: []api.Take{take(6, 2, 1, 3), take(4, 2, 1, 2)}},
			[][]api.Op{{op(stock(2, 1), 9)}, {op(stock(2, 1), -5), op(held(2, 1), 5)}, {op(owed(2), -5)}},
			[][]api.Op{{op(stock(2, 1), -9)}, {op(held(2, 1), -5), op(stock(2, 1), 5)}, {op(owed(2), 5)}},
		},
		{
			api.Program{Kind: api.RqPlace, Order: 7, Lines: []api.Line{line(0, 7), line(1, 2), line(3, 4)},
				Takes: []api.Take{take(7, 0, 0, 1), take(7, 0, 1, 3), take(7, 1, 1, 2), take(7, 3, 1, 1), take(7, 0, 2, 1), take(7, 3, 3, 3)},
				Owes:  []api.Line{line(0, 2)}},
			[][]api.Op{
				{op(stock(0, 0), -1), op(held(0, 0), 1)},
				{op(stock(0, 1), -3), op(held(0, 1), 3), op(stock(1, 1), -2), op(held(1, 1), 2), op(stock(3, 1), -1), op(held(3, 1), 1)},
				{op(stock(0, 2), -1), op(held(0, 2), 1)},
				{op(stock(3, 3), -3), op(held(3, 3), 3)},
				{op(owed(0), 2)},
			},
			[][]api.Op{
				{op(held(0, 0), -1), op(stock(0, 0), 1)},
				{op(held(3, 1), -1), op(stock(3, 1), 1), op(held(1, 1), -2), op(stock(1, 1), 2), op(held(0, 1), -3), op(stock(0, 1), 3)},
				{op(held(0, 2), -1), op(stock(0, 2), 1)},
				{op(held(3, 3), -3), op(stock(3, 3), 3)},
				{op(owed(0), -2)},
			},
		},
		{
			api.Program{Kind: api.RqCancel, Order: 9, Takes: []api.Take{take(9, 1, 2, 6)}, Owes: []api.Line{line(0, 1), line(2, 8)}},
			[][]api.Op{{op(held(1, 2), -6), op(stock(1, 2), 6)}, {op(owed(0), -1), op(owed(2), -8)}},
			[][]api.Op{{op(stock(1, 2), -6), op(held(1, 2), 6)}, {op(owed(2), 8), op(owed(0), 1)}},
		},
		{
			api.Program{Kind: api.RqShip, Order: last, Takes: []api.Take{take(last, 0, 3, 2)}},
			[][]api.Op{{op(held(0, 3), -2), op(out(0), 2)}},
			[][]api.Op{{op(out(0), -2), op(held(0, 3), 2)}},
		},
		{
			api.Program{Kind: api.RqReturn, Order: 1, Takes: []api.Take{take(1, 0, 0, 2), take(1, 2, 0, 5), take(1, 2, 1, 1)}},
			[][]api.Op{{op(out(0), -2), op(stock(0, 0), 2), op(out(2), -5), op(stock(2, 0), 5)}, {op(out(2), -1), op(stock(2, 1), 1)}},
			[][]api.Op{{op(stock(2, 0), -5), op(out(2), 5), op(stock(0, 0), -2), op(out(0), 2)}, {op(stock(2, 1), -1), op(out(2), 1)}},
		},
	}
}

// badPrograms are programs that may not be.
func badPrograms() []api.Program {
	return []api.Program{
		{},
		{Kind: api.RqQuery},
		{Kind: 255, Qty: 4},
		{Kind: api.RqTransfer, Sku: api.MaxSkus, From: 0, To: 2, Qty: 4},
		{Kind: api.RqTransfer, Sku: 1, From: 0, To: api.MaxWares, Qty: 4},
		{Kind: api.RqTransfer, Sku: 1, From: 2, To: 2, Qty: 4},
		{Kind: api.RqTransfer, Sku: 1, From: 0, To: 2},
		{Kind: api.RqTransfer, Order: 3, Sku: 1, From: 0, To: 2, Qty: 4},
		{Kind: api.RqShip, Order: 3},
		{Kind: api.RqShip, Order: 3, Takes: slices.Repeat([]api.Take{take(3, 0, 0, 1)}, api.MaxTakes+1)},
	}
}

// courses are all courses of a plan: forth and back, with each number of steps that may stand, with and without a transaction.
func courses(p plan) []api.Course {
	var l []api.Course
	for _, back := range []bool{false, true} {
		for at := 0; at <= len(p.forth); at++ {
			for _, tries := range []int{0, 1, 4, math.MaxInt - 1, math.MaxInt} {
				for _, txn := range []uint32{0, 3, last} {
					l = append(l, api.Course{Saga: 7, Prog: p.prog, Back: back, Step: at, Tries: tries, Txn: txn})
				}
			}
		}
	}
	return l
}

// badCourses are courses of a plan that may not be.
func badCourses(p plan) []api.Course {
	good := api.Course{Saga: 7, Prog: p.prog}
	var l []api.Course
	for _, txn := range []uint32{0, 3} {
		for _, back := range []bool{false, true} {
			c := good
			c.Back, c.Txn = back, txn
			for _, at := range []int{math.MinInt, -1, len(p.forth) + 1, len(p.forth) + 256, math.MaxInt} {
				b := c
				b.Step = at
				l = append(l, b)
			}
			for _, tries := range []int{math.MinInt, -1} {
				b := c
				b.Tries = tries
				l = append(l, b)
			}
			for _, p := range badPrograms() {
				b := c
				b.Prog = p
				l = append(l, b)
			}
			b := c
			b.Saga = 0
			l = append(l, b)
		}
	}
	return l
}

// goodRecords are records that may be, and fit courses of saga 7 and transaction 3 or of the last one, or nearly so.
func goodRecords() []api.Rec {
	var l []api.Rec
	for _, p := range plans() {
		l = append(l, start(7, p.prog))
	}
	for _, saga := range []uint32{1, 3, 7, 8, last} {
		l = append(l, turnBack(saga), done(saga, api.OcCommitted), done(saga, api.OcCompensated))
		for _, txn := range []uint32{3, 7, last} {
			for at := range uint8(api.MaxSteps) {
				l = append(l, begin(saga, txn, at), beginBack(saga, txn, at))
			}
		}
	}
	for _, txn := range []uint32{1, 3, 4, 7, last} {
		l = append(l, commit(txn), abort(txn), gone(txn))
		for _, o := range []api.Op{op(stock(1, 0), -4), op(stock(1, 0), 4), op(owed(3), greatest)} {
			l = append(l, add(txn, o), undo(txn, o))
		}
	}
	return l
}

// badRecords are records that may not be.
func badRecords() []api.Rec {
	p := plans()[0].prog
	spoilt := commit(3)
	spoilt.Prog.Qty = 1
	return []api.Rec{
		{},
		{Kind: api.Records + 1},
		{Kind: 255, Saga: 7, Txn: 3},
		start(0, p),
		start(7, api.Program{}),
		{Kind: api.RcStart, Saga: 7, Txn: 3, Prog: p},
		begin(0, 3, 0), begin(7, 0, 0), begin(7, 3, api.MaxSteps), begin(7, 3, 255), beginBack(7, 0, 0),
		{Kind: api.RcBegin, Saga: 7, Txn: 3, Out: 1},
		add(0, op(stock(1, 0), 1)), add(3, op(stock(1, 0), 0)), add(3, op(stock(1, 0), least)), add(3, op(stock(4, 0), 1)),
		undo(0, op(stock(1, 0), 1)), undo(3, op(stock(1, 0), 0)), undo(3, op(api.Key{}, 1)),
		commit(0), abort(0), gone(0),
		{Kind: api.RcCommit, Saga: 7, Txn: 3},
		spoilt,
		turnBack(0), {Kind: api.RcBack, Saga: 7, Step: 1},
		done(0, 1), done(7, 0), done(7, 3), {Kind: api.RcDone, Saga: 7, Txn: 3, Out: 1},
	}
}

// text is all that something has: a list without an element is one, nil or empty.
func text(x any) string { return fmt.Sprint(x) }

// P20.1

func TestGood(t *testing.T) {
	for _, p := range plans() {
		for _, c := range courses(p) {
			if !Good(c) {
				t.Errorf("%v may not be", c)
			}
		}
		for _, saga := range []uint32{1, 1 << 31, last} {
			if !Good(api.Course{Saga: saga, Prog: p.prog, Step: len(p.forth)}) {
				t.Errorf("%v may not be of saga %d", p.prog, saga)
			}
		}
	}
}

func TestNotGood(t *testing.T) {
	for _, p := range plans() {
		for _, c := range badCourses(p) {
			if Good(c) {
				t.Errorf("%v may be", c)
			}
		}
	}
	if Good(api.Course{}) {
		t.Error("none may be")
	}
}

// P20.2: Start

func TestStart(t *testing.T) {
	for _, p := range plans() {
		for _, saga := range []uint32{1, 7, last} {
			c, e := Start(start(saga, p.prog))
			if want := (api.Course{Saga: saga, Prog: p.prog}); e != api.OK || text(c) != text(want) || !Good(c) {
				t.Errorf("%v, %d; want %v", c, e, want)
			}
		}
	}
}

func TestStartOfOthers(t *testing.T) {
	l := badRecords()
	for _, r := range goodRecords() {
		if r.Kind != api.RcStart {
			l = append(l, r)
		}
	}
	for _, p := range badPrograms() {
		l = append(l, start(7, p))
	}
	for kind := range uint8(api.Records + 2) {
		if kind != api.RcStart {
			l = append(l, api.Rec{Kind: kind, Saga: 7, Prog: plans()[0].prog})
		}
	}
	for _, r := range l {
		if c, e := Start(r); e != api.ErrArg || text(c) != text(api.Course{}) {
			t.Errorf("of %v: %v, %d", r, c, e)
		}
	}
}

// P20.2: Apply

// applies asks for what a record makes of a course.
func applies(t *testing.T, c api.Course, r api.Rec, want api.Course) {
	t.Helper()
	if x, e := Apply(c, r); e != api.OK || text(x) != text(want) {
		t.Errorf("%v makes of %v: %v, %d; want %v", r, c, x, e, want)
	}
}

// refuses asks for an error, with which a course is as it was.
func refuses(t *testing.T, c api.Course, r api.Rec, want api.Errno) {
	t.Helper()
	if x, e := Apply(c, r); e != want || text(x) != text(c) {
		t.Errorf("%v makes of %v: %v, %d; want error %d", r, c, x, e, want)
	}
}

func TestApplyWhereNoTransactionIsOpen(t *testing.T) {
	for _, p := range plans() {
		n := len(p.forth)
		for at := range n + 1 {
			forth := api.Course{Saga: 7, Prog: p.prog, Step: at, Tries: 2}
			back := forth
			back.Back = true
			for x := range uint8(api.MaxSteps) {
				begun := forth
				begun.Txn = 5
				if int(x) == at && at < n {
					applies(t, forth, begin(7, 5, x), begun)
				} else {
					refuses(t, forth, begin(7, 5, x), api.ErrState)
				}
				refuses(t, forth, beginBack(7, 5, x), api.ErrState)
				begun.Back = true
				if int(x) == at-1 {
					applies(t, back, beginBack(7, 5, x), begun)
				} else {
					refuses(t, back, beginBack(7, 5, x), api.ErrState)
				}
				refuses(t, back, begin(7, 5, x), api.ErrState)
			}
			applies(t, forth, turnBack(7), back)
			refuses(t, back, turnBack(7), api.ErrState)
			ends(t, forth, api.OcCommitted, at == n)
			ends(t, forth, api.OcCompensated, false)
			ends(t, back, api.OcCommitted, false)
			ends(t, back, api.OcCompensated, at == 0)
		}
	}
}

// ends asks whether a course may end so, and that it is as it was then.
func ends(t *testing.T, c api.Course, o uint8, may bool) {
	t.Helper()
	if may {
		applies(t, c, done(c.Saga, o), c)
	} else {
		refuses(t, c, done(c.Saga, o), api.ErrState)
	}
}

func TestApplyWhereATransactionIsOpen(t *testing.T) {
	for _, p := range plans() {
		n := len(p.forth)
		for at := range n + 1 {
			forth := api.Course{Saga: 7, Prog: p.prog, Step: at, Tries: 2, Txn: 3}
			back := forth
			back.Back = true
			for _, c := range []api.Course{forth, back} {
				applies(t, c, add(3, op(owed(3), 9)), c)
				applies(t, c, undo(3, op(owed(3), 9)), c)
				none := c
				none.Txn = 0
				applies(t, c, gone(3), none)
				for _, r := range []api.Rec{begin(7, 3, uint8(at%api.MaxSteps)), begin(7, 4, uint8(at%api.MaxSteps)), turnBack(7), done(7, 1), done(7, 2)} {
					refuses(t, c, r, api.ErrState)
				}
			}
			if at > 0 {
				refuses(t, back, beginBack(7, 3, uint8(at-1)), api.ErrState)
				applies(t, back, commit(3), api.Course{Saga: 7, Prog: p.prog, Back: true, Step: at - 1, Tries: 2})
			} else {
				refuses(t, back, commit(3), api.ErrState)
			}
			if at < n {
				applies(t, forth, commit(3), api.Course{Saga: 7, Prog: p.prog, Step: at + 1, Tries: 2})
			} else {
				refuses(t, forth, commit(3), api.ErrState)
			}
			applies(t, forth, abort(3), api.Course{Saga: 7, Prog: p.prog, Step: at, Tries: 3, Txn: 3})
			refuses(t, back, abort(3), api.ErrState)
		}
	}
}

func TestApplyOfOthers(t *testing.T) {
	o := op(stock(1, 0), -4)
	of := func(txn uint32) []api.Rec {
		return []api.Rec{add(txn, o), undo(txn, o), commit(txn), abort(txn), gone(txn)}
	}
	free := api.Course{Saga: 7, Prog: plans()[0].prog}
	for _, saga := range []uint32{3, 6, 8, 263, 7 + 1<<31} {
		refuses(t, free, begin(saga, 7, 0), api.ErrState)
		refuses(t, free, turnBack(saga), api.ErrState)
		over := free
		over.Step = 2
		refuses(t, over, done(saga, 1), api.ErrState)
		over.Back, over.Step = true, 0
		refuses(t, over, done(saga, 2), api.ErrState)
	}
	busy := free
	busy.Txn = 3
	for _, txn := range []uint32{1, 2, 4, 7, 259, 3 + 1<<31} {
		for _, r := range of(txn) {
			refuses(t, free, r, api.ErrState)
			refuses(t, busy, r, api.ErrState)
		}
	}
}

func TestApplyOfAnAbortAtTheGreatestTries(t *testing.T) {
	c := api.Course{Saga: 7, Prog: plans()[0].prog, Tries: math.MaxInt - 1, Txn: 3}
	more := c
	more.Tries = math.MaxInt
	applies(t, c, abort(3), more)
	refuses(t, more, abort(3), api.ErrState)
	applies(t, more, gone(3), api.Course{Saga: 7, Prog: c.Prog, Tries: math.MaxInt})
}

func TestApplyNamesTheFirstError(t *testing.T) {
	records := slices.Concat(goodRecords(), badRecords())
	for _, p := range plans()[:4] {
		for _, c := range badCourses(p) {
			for _, r := range records {
				refuses(t, c, r, api.ErrState)
			}
		}
		for _, c := range courses(p) {
			for _, r := range badRecords() {
				refuses(t, c, r, api.ErrArg)
			}
			refuses(t, c, start(c.Saga, c.Prog), api.ErrArg)
			refuses(t, c, start(8, plans()[1].prog), api.ErrArg)
		}
	}
}

// wanted is what the chapter says that a record that may be makes of a good course, in its words.
func wanted(c api.Course, n int, r api.Rec) (api.Course, api.Errno) {
	was := c
	its, none, all := r.Txn == c.Txn, c.Txn == 0, c.Step == n
	switch {
	case r.Kind == api.RcStart:
		return was, api.ErrArg
	case r.Kind == api.RcBegin && r.Saga == c.Saga && none && !c.Back && !r.Comp && int(r.Step) == c.Step && int(r.Step) < n:
		c.Txn = r.Txn
	case r.Kind == api.RcBegin && r.Saga == c.Saga && none && c.Back && r.Comp && int(r.Step)+1 == c.Step:
		c.Txn = r.Txn
	case (r.Kind == api.RcAdd || r.Kind == api.RcUndo) && its:
	case r.Kind == api.RcCommit && its && !c.Back && !all:
		c.Step, c.Txn = c.Step+1, 0
	case r.Kind == api.RcCommit && its && c.Back && c.Step != 0:
		c.Step, c.Txn = c.Step-1, 0
	case r.Kind == api.RcAbort && its && !c.Back && c.Tries != math.MaxInt:
		c.Tries++
	case r.Kind == api.RcGone && its:
		c.Txn = 0
	case r.Kind == api.RcBack && r.Saga == c.Saga && !c.Back && none:
		c.Back = true
	case r.Kind == api.RcDone && r.Saga == c.Saga && none && !c.Back && all && r.Out == api.OcCommitted:
	case r.Kind == api.RcDone && r.Saga == c.Saga && none && c.Back && c.Step == 0 && r.Out == api.OcCompensated:
	default:
		return was, api.ErrState
	}
	return c, api.OK
}

func TestApplyOfAllRecordsToAllCourses(t *testing.T) {
	records := goodRecords()
	seen := map[api.Errno]map[uint8]int{api.OK: {}, api.ErrArg: {}, api.ErrState: {}}
	for _, p := range plans() {
		for _, c := range courses(p) {
			for _, r := range records {
				want, we := wanted(c, len(p.forth), r)
				x, e := Apply(c, r)
				if e != we || !Same(x, want) {
					t.Fatalf("%v makes of %v: %v, %d; want %v, %d", r, c, x, e, want, we)
				}
				if !Good(x) {
					t.Fatalf("%v makes of %v what may not be: %v", r, c, x)
				}
				seen[e][r.Kind]++
			}
		}
	}
	for kind := api.RcBegin; kind <= api.RcDone; kind++ {
		if seen[api.OK][kind] == 0 || seen[api.ErrState][kind] == 0 {
			t.Errorf("of kind %d %d records fitted, and %d did not", kind, seen[api.OK][kind], seen[api.ErrState][kind])
		}
	}
}

// P20.3

func TestOps(t *testing.T) {
	for _, p := range plans() {
		for _, c := range courses(p) {
			var want []api.Op
			switch {
			case c.Back && c.Step > 0:
				want = p.back[c.Step-1]
			case !c.Back && c.Step < len(p.forth):
				want = p.forth[c.Step]
			}
			if l := Ops(c); !slices.Equal(l, want) {
				t.Errorf("of %v: %v; want %v", c, l, want)
			}
		}
		for _, c := range badCourses(p) {
			if l := Ops(c); len(l) != 0 {
				t.Errorf("of %v: %v", c, l)
			}
		}
	}
}

// P20.4

// says asks for the record that comes next.
func says(t *testing.T, c api.Course, x api.Txn, retry int, id uint32, want api.Rec) {
	t.Helper()
	if r := Next(c, x, retry, id); text(r) != text(want) {
		t.Errorf("next of %v with %v, retry %d, id %d is %v; want %v", c, x, retry, id, r, want)
	}
}

// txns are transactions, open or dead.
func txns() []api.Txn {
	o, p := op(stock(1, 0), -4), op(owed(2), 5)
	return []api.Txn{
		{},
		{Id: 3, Saga: 7},
		{Id: 3, Saga: 7, Dead: true},
		{Id: 3, Saga: 7, Done: []api.Op{o}, First: 90, Size: 40},
		{Id: 3, Saga: 7, Done: []api.Op{o, p}, Dead: true},
		{Id: 9, Saga: 8, Step: 4, Comp: true, Done: []api.Op{p, o}},
		{Id: 9, Dead: true, Done: []api.Op{p, op(o.Key, least)}},
	}
}

func TestNextWhereNoTransactionIsOpen(t *testing.T) {
	for _, p := range plans() {
		n := len(p.forth)
		for _, x := range txns() {
			for at := range n + 1 {
				forth := api.Course{Saga: 7, Prog: p.prog, Step: at}
				back := forth
				back.Back = true
				if at < n {
					says(t, forth, x, 0, 12, begin(7, 12, uint8(at)))
				} else {
					says(t, forth, x, 0, 12, done(7, api.OcCommitted))
				}
				if at > 0 {
					says(t, back, x, 0, last, beginBack(7, last, uint8(at-1)))
				} else {
					says(t, back, x, 0, last, done(7, api.OcCompensated))
				}
			}
		}
	}
}

func TestNextTurnsBackAboveRetry(t *testing.T) {
	p := plans()[3]
	for at := range len(p.forth) + 1 {
		on := begin(7, 12, uint8(at))
		if at == len(p.forth) {
			on = done(7, api.OcCommitted)
		}
		for _, x := range []struct {
			tries, retry int
			back         bool
		}{
			{0, 0, false}, {1, 0, true}, {2, 3, false}, {3, 3, false}, {4, 3, true}, {5, 4, true},
			{0, -1, true}, {0, math.MinInt, true}, {math.MaxInt, math.MaxInt, false},
			{math.MaxInt, math.MaxInt - 1, true}, {math.MaxInt, math.MinInt, true}, {0, math.MaxInt, false},
		} {
			c := api.Course{Saga: 7, Prog: p.prog, Step: at, Tries: x.tries}
			want := on
			if x.back {
				want = turnBack(7)
			}
			says(t, c, api.Txn{}, x.retry, 12, want)
			// What goes back asks for no retry.
			c.Back = true
			want = done(7, api.OcCompensated)
			if at > 0 {
				want = beginBack(7, 12, uint8(at-1))
			}
			says(t, c, api.Txn{}, x.retry, 12, want)
			// Nor does what is open.
			c.Back, c.Txn = false, 3
			want = commit(3)
			if at < len(p.forth) {
				want = add(3, p.forth[at][0])
			}
			says(t, c, api.Txn{Id: 3}, x.retry, 12, want)
		}
	}
}

func TestNextTakesAnyNumber(t *testing.T) {
	for _, id := range []uint32{0, 1, 3, 1 << 16, last} {
		c := api.Course{Saga: last, Prog: plans()[0].prog}
		says(t, c, api.Txn{}, 0, id, begin(last, id, 0))
		c.Back, c.Step = true, 2
		says(t, c, api.Txn{}, 0, id, beginBack(last, id, 1))
		c.Txn = 3
		says(t, c, api.Txn{}, 0, id, commitOr(api.Txn{}, plans()[0].back[1]))
	}
}

// commitOr is the record that adds the next one of a list, or a commit, if there is none.
func commitOr(x api.Txn, l []api.Op) api.Rec {
	if len(x.Done) < len(l) {
		return add(x.Id, l[len(x.Done)])
	}
	return commit(x.Id)
}

func TestNextWhereATransactionIsOpen(t *testing.T) {
	for _, p := range plans() {
		for at := range len(p.forth) + 1 {
			for _, back := range []bool{false, true} {
				c := api.Course{Saga: 7, Prog: p.prog, Back: back, Step: at, Txn: 3}
				var l []api.Op
				if back && at > 0 {
					l = p.back[at-1]
				} else if !back && at < len(p.forth) {
					l = p.forth[at]
				}
				for n := range api.MaxOps + 3 {
					// How many it has done counts, and not which ones; its own number counts, and not the course's.
					for _, x := range []api.Txn{{Id: 3, Saga: 7}, {Id: 3, Comp: true}, {Id: 11, Saga: 2, Step: 3}, {}} {
						x.Done = slices.Repeat([]api.Op{op(owed(1), 17)}, n)
						says(t, c, x, 0, 12, commitOr(x, l))
					}
				}
			}
		}
	}
}

func TestNextOfADeadTransactionUndoesIt(t *testing.T) {
	for _, p := range plans() {
		for _, c := range courses(p) {
			if c.Txn == 0 {
				continue
			}
			for _, x := range txns() {
				if x.Dead {
					says(t, c, x, 0, 12, Undo(x))
					says(t, c, x, math.MinInt, 0, Undo(x))
				}
			}
		}
	}
}

func TestNextOfWhatMayNotBe(t *testing.T) {
	for _, p := range plans() {
		for _, c := range badCourses(p) {
			for _, x := range txns() {
				for _, retry := range []int{math.MinInt, 0, 4} {
					says(t, c, x, retry, 12, api.Rec{})
				}
			}
		}
	}
	says(t, api.Course{}, api.Txn{}, 0, 0, api.Rec{})
}

func TestUndo(t *testing.T) {
	o, p := op(stock(1, 0), -4), op(owed(2), greatest)
	for _, x := range []struct {
		txn  api.Txn
		want api.Rec
	}{
		{api.Txn{Id: 3}, gone(3)},
		{api.Txn{Id: last, Saga: 7, Step: 2, Comp: true, Dead: true, First: 5, Size: 28, Done: []api.Op{}}, gone(last)},
		{api.Txn{Id: 3, Done: []api.Op{o}}, undo(3, op(o.Key, 4))},
		{api.Txn{Id: 3, Saga: 7, Step: 2, Comp: true, Dead: true, First: 5, Size: 28, Done: []api.Op{o}}, undo(3, op(o.Key, 4))},
		{api.Txn{Id: 9, Done: []api.Op{o, p}}, undo(9, op(p.Key, -greatest))},
		{api.Txn{Id: 9, Dead: true, Done: []api.Op{p, o}}, undo(9, op(o.Key, 4))},
		{api.Txn{Id: 3, Done: []api.Op{o, op(p.Key, least)}}, gone(3)},
		{api.Txn{Id: 3, Done: []api.Op{op(p.Key, least), o}}, undo(3, op(o.Key, 4))},
		{api.Txn{Id: 3, Done: []api.Op{op(api.Key{Kind: 255}, 0)}}, undo(3, op(api.Key{Kind: 255}, 0))},
		{api.Txn{}, api.Rec{Kind: api.RcGone}},
	} {
		if r := Undo(x.txn); text(r) != text(x.want) {
			t.Errorf("of %v: %v; want %v", x.txn, r, x.want)
		}
	}
}

// P20.5

func TestLiveAndTaken(t *testing.T) {
	for _, p := range plans() {
		for _, c := range courses(p) {
			for _, x := range txns() {
				live, taken := slices.Concat(p.forth[:c.Step]...), []api.Op(nil)
				switch {
				case c.Txn == 0:
				case c.Back:
					for _, o := range x.Done {
						if o.Delta != least {
							o.Delta = -o.Delta
						}
						taken = append(taken, o)
					}
				default:
					live = append(live, x.Done...)
				}
				if l := Live(c, x); !slices.Equal(l, live) {
					t.Errorf("live of %v with %v: %v; want %v", c, x, l, live)
				}
				if l := Taken(c, x); !slices.Equal(l, taken) {
					t.Errorf("taken of %v with %v: %v; want %v", c, x, l, taken)
				}
			}
		}
		for _, c := range badCourses(p) {
			for _, x := range txns() {
				if l, m := Live(c, x), Taken(c, x); len(l)+len(m) != 0 {
					t.Errorf("of %v with %v: %v, %v", c, x, l, m)
				}
			}
		}
	}
}

func TestSame(t *testing.T) {
	p, q := plans()[3].prog, plans()[0].prog
	some := api.Course{Saga: 7, Prog: p, Step: 2, Tries: 1, Txn: 3}
	l := []api.Course{{}, {Back: true}, some}
	for _, change := range []func(*api.Course){
		func(c *api.Course) { c.Saga = 8 },
		func(c *api.Course) { c.Saga += 1 << 31 },
		func(c *api.Course) { c.Prog = q },
		func(c *api.Course) { c.Prog = api.Program{} },
		func(c *api.Course) { c.Prog.Owes = []api.Line{line(0, 3)} },
		func(c *api.Course) { c.Prog.Takes = c.Prog.Takes[:5] },
		func(c *api.Course) { c.Back = true },
		func(c *api.Course) { c.Step = 3 },
		func(c *api.Course) { c.Step = math.MinInt },
		func(c *api.Course) { c.Tries = 0 },
		func(c *api.Course) { c.Tries = math.MaxInt },
		func(c *api.Course) { c.Txn = 0 },
		func(c *api.Course) { c.Txn += 1 << 31 },
	} {
		c := some
		change(&c)
		l = append(l, c)
	}
	for i, a := range l {
		for j, b := range l {
			b.Prog.Takes = slices.Clone(b.Prog.Takes)
			if is := Same(a, b); is != (i == j) {
				t.Errorf("Same(%v, %v) is %t", a, b, is)
			}
		}
	}
	empty := api.Course{Prog: api.Program{Lines: []api.Line{}, Takes: []api.Take{}, Owes: []api.Line{}}}
	if !Same(empty, api.Course{}) || !Same(api.Course{}, empty) {
		t.Error("lists without an element are not the same")
	}
}

// P20.6

// run is a course that goes on with its transactions, and what its fields have come to.
type run struct {
	course api.Course
	txns   *journal.Journal
	values map[api.Key]int64
	ids    uint32
}

// fork is a run that has the same, and goes its own way.
func (r run) fork() run {
	values := map[api.Key]int64{}
	for k, v := range r.values {
		values[k] = v
	}
	r.txns, r.values = r.txns.Copy(), values
	return r
}

// txn is the course's transaction.
func (r run) txn() api.Txn {
	x, _ := r.txns.Get(r.course.Txn)
	return x
}

// apply goes on by a record, which has to fit, and asks that what is live and taken comes to what the fields have.
func (r *run) apply(t *testing.T, x api.Rec) {
	t.Helper()
	c, e := Apply(r.course, x)
	if e != api.OK {
		t.Fatalf("%v does not fit %v: %d", x, r.course, e)
	}
	r.course = c
	switch x.Kind {
	case api.RcBegin:
		r.ids++
		fallthrough
	case api.RcAdd, api.RcCommit, api.RcAbort, api.RcUndo, api.RcGone:
		if e := r.txns.Apply(0, x); e != api.OK {
			t.Fatalf("%v does not fit the transactions %v: %d", x, r.txns.All(), e)
		}
	}
	if x.Kind == api.RcAdd || x.Kind == api.RcUndo {
		r.values[x.Key] += x.Delta
	}
	nets := map[api.Key]int64{}
	for _, o := range Live(r.course, r.txn()) {
		nets[o.Key] += o.Delta
	}
	for _, o := range Taken(r.course, r.txn()) {
		nets[o.Key] -= o.Delta
	}
	alike(t, r.course, nets, r.values)
}

// alike asks that two have the same, where what is not there is 0.
func alike(t *testing.T, c api.Course, a, b map[api.Key]int64) {
	t.Helper()
	for _, m := range []map[api.Key]int64{a, b} {
		for k := range m {
			if a[k] != b[k] {
				t.Fatalf("of %v: what is live and taken comes to %v; the fields have %v", c, a, b)
			}
		}
	}
}

// follow goes on by what Next says to the end; wherever a transaction may be given up, that is gone through too, as long as there are kills. It tells how often each outcome came.
func follow(t *testing.T, p plan, r run, retry, kills, left int, ended map[uint8]int) {
	for {
		if left--; left < 0 {
			t.Fatalf("%v does not end", r.course)
		}
		if x := r.txn(); kills > 0 && !r.course.Back && x.Id != 0 && !x.Dead {
			other := r.fork()
			other.apply(t, abort(x.Id))
			follow(t, p, other, retry, kills-1, left, ended)
		}
		next := Next(r.course, r.txn(), retry, r.ids)
		r.apply(t, next)
		if next.Kind == api.RcDone {
			isOver(t, p, r, next.Out, retry)
			ended[next.Out]++
			return
		}
	}
}

// isOver asks for what a course must be at its end.
func isOver(t *testing.T, p plan, r run, o uint8, retry int) {
	t.Helper()
	c := r.course
	want := map[api.Key]int64{}
	switch o {
	case api.OcCommitted:
		if c.Back || c.Step != len(p.forth) || c.Tries > retry {
			t.Fatalf("%v is committed", c)
		}
		for _, x := range slices.Concat(p.forth...) {
			want[x.Key] += x.Delta
		}
	case api.OcCompensated:
		if !c.Back || c.Step != 0 || c.Tries != retry+1 {
			t.Fatalf("%v is compensated", c)
		}
	}
	alike(t, c, want, r.values)
	if len(r.txns.All()) != 0 {
		t.Fatalf("%v is over, and %v are open", c, r.txns.All())
	}
}

func TestEachCourseEnds(t *testing.T) {
	for _, p := range plans() {
		for retry := range 3 {
			for kills := range 4 {
				if kills == 3 && len(p.forth) > 3 {
					continue
				}
				c, _ := Start(start(7, p.prog))
				ended := map[uint8]int{}
				follow(t, p, run{c, journal.New(), map[api.Key]int64{}, 1}, retry, kills, 300, ended)
				if (ended[api.OcCompensated] > 0) != (kills > retry) || ended[api.OcCommitted] == 0 || len(ended) > 2 {
					t.Errorf("of %v with retry %d and %d kills: %v", p.prog, retry, kills, ended)
				}
			}
		}
	}
}

func TestATurnBackOutOfTurnEndsToo(t *testing.T) {
	for _, p := range plans() {
		for at := range len(p.forth) + 1 {
			c, _ := Start(start(7, p.prog))
			r := run{c, journal.New(), map[api.Key]int64{}, 1}
			for r.course.Step < at {
				r.apply(t, Next(r.course, r.txn(), 0, r.ids))
			}
			r.apply(t, turnBack(7))
			var next api.Rec
			for n := 0; next.Kind != api.RcDone; n++ {
				if n > 100 {
					t.Fatalf("%v does not end", r.course)
				}
				next = Next(r.course, r.txn(), 0, r.ids)
				r.apply(t, next)
			}
			if next.Out != api.OcCompensated || r.course.Step != 0 {
				t.Errorf("%v ends as %d", r.course, next.Out)
			}
			alike(t, r.course, nil, r.values)
		}
	}
}

func TestExample(t *testing.T) {
	c := api.Course{Saga: 7, Prog: plans()[1].prog, Tries: 2}
	says(t, c, api.Txn{}, 2, 5, begin(7, 5, 0))
	c.Tries = 3
	says(t, c, api.Txn{}, 2, 5, turnBack(7))
	c, _ = Apply(c, turnBack(7))
	says(t, c, api.Txn{}, 2, 5, done(7, api.OcCompensated))
}

// Rule 4: what is handed in and out

// spoil changes whatever a program's lists have.
func spoil(p api.Program) {
	for i := range p.Lines[:cap(p.Lines)] {
		p.Lines[:cap(p.Lines)][i] = line(99, 99)
	}
	for i := range p.Takes[:cap(p.Takes)] {
		p.Takes[:cap(p.Takes)][i] = take(99, 99, 99, 99)
	}
	for i := range p.Owes[:cap(p.Owes)] {
		p.Owes[:cap(p.Owes)][i] = line(99, 99)
	}
}

func TestProgramsThatAreHandedOutAreTheirOwn(t *testing.T) {
	for _, records := range [][]api.Rec{{begin(7, 3, 0)}, {start(7, plans()[0].prog)}, {{}}, {gone(9)}, {turnBack(7), done(7, api.OcCompensated)}} {
		mine := plans()[3].prog
		was := text(mine)
		c, _ := Start(start(7, mine))
		if spoil(c.Prog); text(mine) != was {
			t.Fatal("a start's program changes with its course")
		}
		c = api.Course{Saga: 7, Prog: mine}
		for _, r := range records {
			x, _ := Apply(c, r)
			if spoil(x.Prog); text(mine) != was {
				t.Fatalf("a course's program changes with what %v made of it", r)
			}
		}
		c.Saga = 0
		x, _ := Apply(c, records[0])
		if spoil(x.Prog); text(mine) != was {
			t.Fatal("the program of a course that may not be changes with what is told of it")
		}
	}
	mine := plans()[3].prog
	c, _ := Start(start(7, mine))
	want := text(c)
	if spoil(mine); text(c) != want {
		t.Fatal("a course changes with what it was started with")
	}
}

func TestListsThatAreHandedOutAreTheirOwn(t *testing.T) {
	p := plans()[3]
	for _, back := range []bool{false, true} {
		for at := range len(p.forth) + 1 {
			room := []api.Op{op(stock(1, 0), -4), op(owed(2), 5), op(owed(1), 7)}
			held := slices.Clone(room)
			c := api.Course{Saga: 7, Prog: p.prog, Back: back, Step: at, Txn: 3}
			x := api.Txn{Id: 3, Saga: 7, Done: room[:2]}
			for _, call := range []func() []api.Op{
				func() []api.Op { return Ops(c) },
				func() []api.Op { return Live(c, x) },
				func() []api.Op { return Taken(c, x) },
			} {
				a, b := call(), call()
				want := slices.Clone(b)
				for i := range a[:cap(a)] {
					a[:cap(a)][i] = op(owed(9), 99)
				}
				if !slices.Equal(b, want) || !slices.Equal(call(), want) || !slices.Equal(room, held) || text(c.Prog) != text(plans()[3].prog) {
					t.Fatalf("of %v: with an answer that is changed, another one is %v; want %v", c, b, want)
				}
			}
			Next(c, x, 0, 9)
			Undo(x)
			Apply(c, commit(3))
			Same(c, c)
			if !slices.Equal(room, held) || text(c.Prog) != text(plans()[3].prog) {
				t.Fatalf("of %v: what was handed in is changed: %v", c, room)
			}
		}
	}
}
