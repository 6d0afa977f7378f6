package journal

import (
	"fmt"
	"math"
	"math/rand"
	"slices"
	"testing"

	"pledge/api"
)

const (
	least    = math.MinInt64
	greatest = math.MaxInt64
	last     = math.MaxUint32
)

func stock(ware uint8) api.Key { return api.Key{Kind: api.KStock, Ware: ware} }

func held(ware uint8) api.Key { return api.Key{Kind: api.KHeld, Ware: ware} }

func op(k api.Key, delta int64) api.Op { return api.Op{Key: k, Delta: delta} }

func begin(saga, txn uint32) api.Rec { return api.Rec{Kind: api.RcBegin, Saga: saga, Txn: txn} }

func add(txn uint32, o api.Op) api.Rec {
	return api.Rec{Kind: api.RcAdd, Txn: txn, Key: o.Key, Delta: o.Delta}
}

func undo(txn uint32, o api.Op) api.Rec {
	return api.Rec{Kind: api.RcUndo, Txn: txn, Key: o.Key, Delta: o.Delta}
}

func commit(txn uint32) api.Rec { return api.Rec{Kind: api.RcCommit, Txn: txn} }

func abort(txn uint32) api.Rec { return api.Rec{Kind: api.RcAbort, Txn: txn} }

func gone(txn uint32) api.Rec { return api.Rec{Kind: api.RcGone, Txn: txn} }

// ops are n additions, each one another.
func ops(n int) []api.Op {
	var l []api.Op
	for i := range n {
		l = append(l, op(api.Key{Kind: api.KStock, Sku: uint8(i % 4), Ware: uint8(i / 4 % 4)}, int64(i+1)))
	}
	return l
}

// all is all that a transaction has, as text: a list without an element is one, nil or empty.
func all(x api.Txn) string { return fmt.Sprint(x) }

// few are transactions with all that they may have, rising by Id; two are of one saga, and the one that began first is neither first nor last.
func few() []api.Txn {
	return []api.Txn{
		{Id: 2, Saga: 5, Step: 4, Comp: true, Done: ops(2), First: 80, Size: 100},
		{Id: 4, Saga: 9, Dead: true, Done: ops(6), First: 60, Size: 9},
		{Id: 6, Saga: 5, Step: 1, First: 90},
		{Id: last, Saga: last, Step: 255, Comp: true, Dead: true, Done: ops(20), First: greatest, Size: -7},
	}
}

// clones are the same transactions, with lists of their own.
func clones(l []api.Txn) []api.Txn {
	c := slices.Clone(l)
	for i := range c {
		c[i].Done = slices.Clone(c[i].Done)
	}
	return c
}

// has asks that a journal has just these transactions, rising by Id, by each call that tells of them.
func has(t *testing.T, what string, j *Journal, want []api.Txn) {
	t.Helper()
	if l := j.All(); fmt.Sprint(l) != fmt.Sprint(want) {
		t.Fatalf("%s: all are %v; want %v", what, l, want)
	}
	ids, sagas := map[uint32]api.Txn{}, map[uint32]api.Txn{}
	first := api.Txn{}
	for i, x := range want {
		ids[x.Id] = x
		if _, is := sagas[x.Saga]; !is {
			sagas[x.Saga] = x
		}
		if i == 0 || x.First < first.First {
			first = x
		}
	}
	for _, n := range asked(want) {
		w, is := ids[n]
		if x, ok := j.Get(n); all(x) != all(w) || ok != is {
			t.Fatalf("%s: Get(%d) is %v, %v; want %v, %v", what, n, x, ok, w, is)
		}
		w, is = sagas[n]
		if x, ok := j.Of(n); all(x) != all(w) || ok != is {
			t.Fatalf("%s: Of(%d) is %v, %v; want %v, %v", what, n, x, ok, w, is)
		}
	}
	if at, ok := j.First(); at != first.First || ok != (len(want) > 0) {
		t.Fatalf("%s: First is %d, %v; want %d, %v", what, at, ok, first.First, len(want) > 0)
	}
}

// asked are numbers that transactions and their sagas have, and those beside them.
func asked(l []api.Txn) []uint32 {
	n := []uint32{0, 1, 1 << 31, last - 1, last}
	for _, x := range l {
		n = append(n, x.Id-1, x.Id, x.Id+1, x.Saga-1, x.Saga, x.Saga+1)
	}
	return n
}

// applies asks for a record's error, and for what the journal has then.
func applies(t *testing.T, what string, j *Journal, at int64, r api.Rec, want api.Errno, then ...api.Txn) {
	t.Helper()
	if e := j.Apply(at, r); e != want {
		t.Fatalf("%s: %v is error %d; want %d", what, r, e, want)
	}
	has(t, what, j, then)
}

// P19.1

func TestNewOfNone(t *testing.T) {
	for _, j := range []*Journal{New(), New([]api.Txn{}...), New(nil...), {}} {
		has(t, "a journal of none", j, nil)
	}
}

func TestNewHasTheTransactions(t *testing.T) {
	want := few()
	has(t, "a new journal", New(want...), want)
	backward := few()
	slices.Reverse(backward)
	has(t, "a new journal, handed in backward", New(backward...), want)
	for i := range want {
		has(t, "a new journal of one", New(want[i]), want[i:i+1])
	}
}

func TestNewTakesAnyTransaction(t *testing.T) {
	want := []api.Txn{{}, {Id: 1, First: least, Size: math.MinInt}, {Id: last, First: -1, Size: math.MaxInt, Done: []api.Op{op(api.Key{Kind: 255, Sku: 255, Ware: 255}, least), {}}}}
	has(t, "odd transactions", New(want...), want)
	has(t, "one of no numbers", New(api.Txn{}), []api.Txn{{}})
	has(t, "one that began at the end", New(api.Txn{Id: 3, Saga: 3, First: greatest}), []api.Txn{{Id: 3, Saga: 3, First: greatest}})
}

func TestNewHasTheLastOneOfAnId(t *testing.T) {
	a, b, c := api.Txn{Id: 3, Saga: 1, First: 5, Done: ops(3)}, api.Txn{Id: 7, Saga: 2, First: 6}, api.Txn{Id: 3, Saga: 8, First: 9, Dead: true}
	has(t, "the last one", New(a, b, c), []api.Txn{c, b})
	has(t, "the last one", New(c, b, a), []api.Txn{a, b})
	has(t, "the last one", New(a, c, a, c, b, a), []api.Txn{a, b})
}

func TestOfSeveralIsTheOneOfTheLeastId(t *testing.T) {
	// Often, as a map is gone through in no order.
	for range 50 {
		var l []api.Txn
		for id := uint32(20); id > 10; id-- {
			l = append(l, api.Txn{Id: id, Saga: 6, First: int64(id)}, api.Txn{Id: id - 10, Saga: 7, First: -int64(id)})
		}
		j := New(l...)
		if x, ok := j.Of(6); x.Id != 11 || !ok {
			t.Fatalf("of saga 6: %v, %v", x, ok)
		}
		if x, ok := j.Of(7); x.Id != 1 || !ok {
			t.Fatalf("of saga 7: %v, %v", x, ok)
		}
		if at, ok := j.First(); at != -20 || !ok {
			t.Fatalf("first: %d, %v", at, ok)
		}
	}
}

func TestCopyGoesItsOwnWay(t *testing.T) {
	was := few()
	j := New(was...)
	c := j.Copy()
	has(t, "a copy", c, was)
	for _, r := range []api.Rec{add(2, op(stock(3), 7)), abort(6), commit(2), begin(1, 1)} {
		if e := j.Apply(5, r); e != api.OK {
			t.Fatal(r, e)
		}
	}
	has(t, "a copy, where the first one went on", c, was)
	now := j.All()
	d := j.Copy()
	undone, _ := Last(was[1])
	for _, r := range []api.Rec{undo(4, undone), add(1, op(held(0), 1)), gone(6)} {
		if e := d.Apply(5, r); e != api.OK {
			t.Fatal(r, e)
		}
	}
	has(t, "the first one, where its copy went on", j, now)
	has(t, "the copy of none", New().Copy(), nil)
}

// P19.2: what may not be

func TestApplyOfNil(t *testing.T) {
	var j *Journal
	for _, r := range []api.Rec{begin(1, 1), commit(1), gone(1), {}} {
		if e := j.Apply(1, r); e != api.ErrArg {
			t.Errorf("%v of nil is error %d", r, e)
		}
	}
	has(t, "nil", j, nil)
	c := j.Copy()
	if c == nil {
		t.Fatal("a copy of nil is nil")
	}
	has(t, "a copy of nil", c, nil)
	applies(t, "a copy of nil", c, 3, begin(1, 2), api.OK, api.Txn{Id: 2, Saga: 1, First: 3, Size: 17})
}

func TestApplyOfAJournalThatNoCallMade(t *testing.T) {
	for _, r := range []api.Rec{add(1, op(stock(0), 1)), commit(1), abort(1), undo(1, op(stock(0), 1)), gone(1)} {
		applies(t, "a zero journal", &Journal{}, 1, r, api.ErrUnknown)
	}
	j := &Journal{}
	applies(t, "a zero journal", j, 3, begin(1, 2), api.OK, api.Txn{Id: 2, Saga: 1, First: 3, Size: 17})
	applies(t, "a zero journal", j, 20, commit(2), api.OK)
	has(t, "a zero journal's copy", (&Journal{}).Copy(), nil)
}

// strange are records that may not be, of transactions of few and of none.
func strange() []api.Rec {
	k := stock(0)
	transfer := api.Program{Kind: api.RqTransfer, To: 1, Qty: 1}
	l := []api.Rec{
		{},
		{Kind: 10, Txn: 2},
		{Kind: 255, Saga: 1, Txn: 2},
		begin(0, 1), begin(1, 0), begin(5, 0), begin(0, 2),
		{Kind: api.RcBegin, Saga: 1, Txn: 1, Step: api.MaxSteps},
		{Kind: api.RcBegin, Saga: 1, Txn: 1, Delta: 1},
		{Kind: api.RcBegin, Saga: 1, Txn: 1, Key: k},
		{Kind: api.RcBegin, Saga: 1, Txn: 1, Out: api.OcCommitted},
		{Kind: api.RcBegin, Saga: 1, Txn: 1, Prog: transfer},
		{Kind: api.RcCommit, Txn: 2, Prog: transfer},
	}
	for _, txn := range []uint32{0, 1, 2, 4, 6} {
		l = append(l, api.Rec{Kind: api.RcStart, Saga: 1, Txn: txn})
		for _, r := range []api.Rec{commit(txn), abort(txn), gone(txn)} {
			l = append(l, saga(r, 5), stepped(r, 1), backward(r), api.Rec{Kind: r.Kind, Txn: txn, Delta: 1}, api.Rec{Kind: r.Kind, Txn: txn, Key: k}, api.Rec{Kind: r.Kind, Txn: txn, Out: 1})
		}
		for _, r := range []api.Rec{add(txn, op(k, 1)), undo(txn, op(k, -1))} {
			zero, lowest, odd := r, r, r
			zero.Delta, lowest.Delta, odd.Key.Kind = 0, least, 5
			l = append(l, saga(r, 5), stepped(r, 1), backward(r), zero, lowest, odd)
			odd.Key = api.Key{Kind: api.KOut, Ware: 1}
			l = append(l, odd)
			odd.Key = api.Key{Kind: api.KStock, Ware: api.MaxWares}
			l = append(l, odd)
			odd.Key = api.Key{Kind: api.KStock, Sku: api.MaxSkus}
			l = append(l, odd)
		}
	}
	return append(l, begin(0, 0), commit(0), abort(0), gone(0), add(0, op(k, 1)), undo(0, op(k, 1)))
}

func saga(r api.Rec, n uint32) api.Rec {
	r.Saga = n
	return r
}

func stepped(r api.Rec, n uint8) api.Rec {
	r.Step = n
	return r
}

func backward(r api.Rec) api.Rec {
	r.Comp = true
	return r
}

func TestApplyOfWhatMayNotBe(t *testing.T) {
	j := New(few()...)
	for _, r := range strange() {
		applies(t, "what may not be", j, 7, r, api.ErrArg, few()...)
	}
}

func TestApplyOfOtherKinds(t *testing.T) {
	j := New(few()...)
	for _, r := range []api.Rec{
		{Kind: api.RcStart, Saga: 5, Prog: api.Program{Kind: api.RqTransfer, To: 1, Qty: 1}},
		{Kind: api.RcStart, Saga: 77, Prog: api.Program{Kind: api.RqTransfer, To: 1, Qty: 1}},
		{Kind: api.RcBack, Saga: 5},
		{Kind: api.RcBack, Saga: 77},
		{Kind: api.RcDone, Saga: 5, Out: api.OcCommitted},
		{Kind: api.RcDone, Saga: 77, Out: api.OcCompensated},
	} {
		applies(t, "another kind", j, 7, r, api.ErrArg, few()...)
	}
}

// P19.2: begins

func TestBegin(t *testing.T) {
	ends := []int64{least, -1, 0, 1, 1 << 40, greatest}
	for i, r := range []api.Rec{begin(1, 1), begin(last, last), backward(stepped(begin(7, 3), 4)), backward(begin(3, 7)), stepped(begin(1, last), 2)} {
		for _, at := range ends {
			want := api.Txn{Id: r.Txn, Saga: r.Saga, Step: r.Step, Comp: r.Comp, First: at, Size: 17}
			applies(t, fmt.Sprint("begin ", i), New(), at, r, api.OK, want)
		}
	}
}

func TestBeginOfSeveral(t *testing.T) {
	j := New()
	a, b, c := api.Txn{Id: 9, Saga: 1, First: 50, Size: 17}, api.Txn{Id: 3, Saga: 9, First: 40, Size: 17}, api.Txn{Id: 1, Saga: 3, First: 60, Size: 17}
	applies(t, "one", j, 50, begin(1, 9), api.OK, a)
	// The number of a transaction is not that of a saga.
	applies(t, "two", j, 40, begin(9, 3), api.OK, b, a)
	applies(t, "three", j, 60, begin(3, 1), api.OK, c, b, a)
	applies(t, "the second one is over", j, 70, commit(3), api.OK, c, a)
	applies(t, "it begins again", j, 40, begin(9, 3), api.OK, c, b, a)
}

func TestBeginOfOneThatIsThere(t *testing.T) {
	j := New(few()...)
	for _, r := range []api.Rec{
		begin(1, 2), begin(1, 4), begin(1, last), // of that Txn
		begin(5, 1), begin(9, 1), begin(last, 1), // of that Saga
		begin(5, 2), begin(9, 2), begin(5, 6), backward(stepped(begin(5, 2), 4)), // of both
	} {
		applies(t, "one that is there", j, 7, r, api.ErrDup, few()...)
	}
	// A transaction of no saga is no saga's.
	none := api.Txn{Id: 8}
	applies(t, "one of no saga", New(none), 0, begin(8, 1), api.OK, api.Txn{Id: 1, Saga: 8, Size: 17}, none)
}

// P19.2: all others

func TestRecordsOfNoTransaction(t *testing.T) {
	j := New(few()...)
	for _, txn := range []uint32{1, 3, 5, 7, 9, last - 1} {
		// Whatever would be wrong with them else.
		for _, r := range []api.Rec{add(txn, op(stock(0), 1)), commit(txn), abort(txn), undo(txn, op(stock(0), -1)), gone(txn)} {
			applies(t, "of none", j, 7, r, api.ErrUnknown, few()...)
		}
	}
}

func TestAdd(t *testing.T) {
	j := New()
	applies(t, "begin", j, 30, begin(1, 2), api.OK, api.Txn{Id: 2, Saga: 1, First: 30, Size: 17})
	want := api.Txn{Id: 2, Saga: 1, First: 30, Size: 17}
	// The least one that may be, the greatest one, and one again.
	for _, o := range []api.Op{op(stock(3), least+1), op(api.Key{Kind: api.KOwed, Sku: 3}, greatest), op(held(0), -1), op(held(0), -1), op(held(0), 1), op(api.Key{Kind: api.KOut, Sku: 2}, 9)} {
		want.Done = append(want.Done, o)
		want.Size += 22
		applies(t, "an addition", j, 99, add(2, o), api.OK, want)
	}
	applies(t, "one too many", j, 99, add(2, op(stock(0), 1)), api.ErrState, want)
}

func TestAddOfMany(t *testing.T) {
	for n := range 20 {
		was := api.Txn{Id: 2, Saga: 1, Done: ops(n), Size: 5}
		if n >= api.MaxOps {
			applies(t, "no more", New(was), 9, add(2, op(stock(1), 8)), api.ErrState, was)
			continue
		}
		want := api.Txn{Id: 2, Saga: 1, Done: append(ops(n), op(stock(1), 8)), Size: 27}
		applies(t, "one more", New(was), 9, add(2, op(stock(1), 8)), api.OK, want)
	}
}

func TestCommit(t *testing.T) {
	l := few()
	applies(t, "with additions", New(l...), 7, commit(2), api.OK, l[1:]...)
	applies(t, "without", New(l...), 7, commit(6), api.OK, l[0], l[1], l[3])
	applies(t, "the only one", New(l[0]), 7, commit(2), api.OK)
}

func TestAbort(t *testing.T) {
	for _, was := range []api.Txn{{Id: 2, Saga: 5, Step: 3, Comp: true, First: 8, Size: 39, Done: ops(1)}, {Id: 2}, {Id: 2, Done: ops(9)}} {
		want := was
		want.Dead = true
		want.Size += 11
		applies(t, "given up", New(was), 7, abort(2), api.OK, want)
	}
}

func TestDeadOnesAreNotGoneOnWith(t *testing.T) {
	for _, was := range []api.Txn{{Id: 2, Dead: true}, {Id: 2, Saga: 5, Dead: true, Done: ops(1)}, {Id: 2, Dead: true, Done: ops(6)}} {
		for _, r := range []api.Rec{add(2, op(stock(0), 1)), commit(2), abort(2)} {
			applies(t, "a dead one", New(was), 7, r, api.ErrState, was)
		}
	}
}

func TestUndo(t *testing.T) {
	for _, dead := range []bool{false, true} {
		was := api.Txn{Id: 2, Saga: 5, Step: 3, Comp: true, Dead: dead, First: 8, Size: 39, Done: ops(2)}
		want := was
		want.Dead, want.Size, want.Done = true, 61, ops(1)
		applies(t, "undone", New(was), 7, undo(2, op(was.Done[1].Key, -2)), api.OK, want)
	}
}

func TestUndoOfAnother(t *testing.T) {
	k := api.Key{Kind: api.KHeld, Sku: 2, Ware: 1}
	for _, dead := range []bool{false, true} {
		was := api.Txn{Id: 2, Saga: 5, Dead: dead, Done: []api.Op{op(stock(1), 3), op(k, -4)}}
		for _, o := range []api.Op{
			op(stock(1), -3), op(k, -4), op(k, 3), op(k, 5), op(k, -3), op(stock(1), 4), op(k, least+1), op(k, greatest),
			op(api.Key{Kind: api.KStock, Sku: 2, Ware: 1}, 4), op(api.Key{Kind: api.KHeld, Sku: 1, Ware: 1}, 4), op(api.Key{Kind: api.KHeld, Sku: 2, Ware: 2}, 4),
		} {
			applies(t, "of another", New(was), 7, undo(2, o), api.ErrState, was)
		}
		empty := api.Txn{Id: 2, Saga: 5, Dead: dead}
		applies(t, "of none", New(empty), 7, undo(2, op(k, 4)), api.ErrState, empty)
	}
}

func TestUndoAtTheEnds(t *testing.T) {
	for _, c := range []struct{ done, undone int64 }{{greatest, least + 1}, {least + 1, greatest}} {
		was := api.Txn{Id: 2, Done: []api.Op{op(stock(1), c.done)}}
		applies(t, "at an end", New(was), 7, undo(2, op(stock(1), c.undone)), api.OK, api.Txn{Id: 2, Dead: true, Size: 22})
	}
	// Neither 0 nor the least number has an opposite that a record may have.
	for _, done := range []int64{least, 0} {
		was := api.Txn{Id: 2, Done: []api.Op{op(stock(1), done)}}
		for _, undone := range []int64{least + 1, -1, 1, greatest} {
			applies(t, "beyond an end", New(was), 7, undo(2, op(stock(1), undone)), api.ErrState, was)
		}
	}
}

func TestGone(t *testing.T) {
	for _, dead := range []bool{false, true} {
		was := api.Txn{Id: 2, Saga: 5, Dead: dead}
		other := api.Txn{Id: 9, Saga: 4, Done: ops(1)}
		applies(t, "nothing is left", New(was, other), 7, gone(2), api.OK, other)
		applies(t, "the only one", New(was), 7, gone(2), api.OK)
		for n := 1; n < 9; n++ {
			was.Done = ops(n)
			applies(t, "something is left", New(was), 7, gone(2), api.ErrState, was)
		}
	}
}

func TestSizeAtTheEnds(t *testing.T) {
	for _, c := range []struct {
		r    api.Rec
		size int
	}{{add(2, op(stock(0), 1)), 22}, {abort(2), 11}, {undo(2, op(stock(0), -1)), 22}} {
		for _, was := range []int{math.MinInt, -1, 0, 1, math.MaxInt - 23, math.MaxInt - 22, math.MaxInt - 21, math.MaxInt - 12, math.MaxInt - 11, math.MaxInt - 10, math.MaxInt - 1, math.MaxInt} {
			want := math.MaxInt
			if was <= math.MaxInt-c.size {
				want = was + c.size
			}
			j := New(api.Txn{Id: 2, Done: ops(1), Size: was})
			if e := j.Apply(0, c.r); e != api.OK {
				t.Fatal(c.r, e)
			}
			if x, _ := j.Get(2); x.Size != want {
				t.Errorf("behind %v a size of %d is %d; want %d", c.r, was, x.Size, want)
			}
		}
	}
}

// The chapter's example

func TestExample(t *testing.T) {
	j := New()
	a, b := op(stock(0), -3), op(held(0), 3)
	steps := []struct {
		r    api.Rec
		want api.Errno
	}{
		{begin(1, 3), api.OK},
		{add(3, a), api.OK},
		{add(3, b), api.OK},
		{gone(3), api.ErrState},
		{undo(3, op(held(0), -3)), api.OK},
		{add(3, b), api.ErrState},
	}
	for i, s := range steps {
		if e := j.Apply(int64(i), s.r); e != s.want {
			t.Fatalf("step %d is error %d; want %d", i, e, s.want)
		}
	}
	has(t, "the example", j, []api.Txn{{Id: 3, Saga: 1, Dead: true, Done: []api.Op{a}, Size: 17 + 3*22}})
}

// P19.3

func TestLast(t *testing.T) {
	odd := api.Key{Kind: 255, Sku: 254, Ware: 253}
	cases := []struct {
		done []api.Op
		want api.Op
		is   bool
	}{
		{nil, api.Op{}, false},
		{[]api.Op{}, api.Op{}, false},
		{[]api.Op{op(odd, 3)}, op(odd, -3), true},
		{[]api.Op{op(odd, 3), op(stock(1), -4)}, op(stock(1), 4), true},
		{[]api.Op{op(stock(1), least), op(odd, -3)}, op(odd, 3), true},
		{[]api.Op{op(odd, 3), op(stock(1), least)}, api.Op{}, false},
		{[]api.Op{op(odd, least+1)}, op(odd, greatest), true},
		{[]api.Op{op(odd, greatest)}, op(odd, least+1), true},
		{[]api.Op{op(odd, 0)}, op(odd, 0), true},
		{ops(20), op(ops(20)[19].Key, -20), true},
	}
	for _, c := range cases {
		for _, dead := range []bool{false, true} {
			x := api.Txn{Id: 5, Saga: 6, Dead: dead, Done: slices.Clone(c.done), First: 7, Size: 8}
			if o, is := Last(x); o != c.want || is != c.is {
				t.Errorf("Last of %v is %v, %v; want %v, %v", c.done, o, is, c.want, c.is)
			}
			if !slices.Equal(x.Done, c.done) {
				t.Errorf("Last has made %v of %v", x.Done, c.done)
			}
		}
	}
}

func TestSame(t *testing.T) {
	x := api.Txn{Id: 1, Saga: 2, Step: 3, Comp: true, Dead: true, Done: []api.Op{op(api.Key{Kind: 4, Sku: 5, Ware: 6}, 7), op(stock(2), 8)}, First: 9, Size: 10}
	changes := []func(x *api.Txn){
		func(x *api.Txn) { x.Id = 2 },
		func(x *api.Txn) { x.Id += 1 << 31 },
		func(x *api.Txn) { x.Saga = 1 },
		func(x *api.Txn) { x.Saga += 1 << 31 },
		func(x *api.Txn) { x.Id, x.Saga = x.Saga, x.Id },
		func(x *api.Txn) { x.Step = 0 },
		func(x *api.Txn) { x.Comp = false },
		func(x *api.Txn) { x.Dead = false },
		func(x *api.Txn) { x.First = -9 },
		func(x *api.Txn) { x.First += 1 << 62 },
		func(x *api.Txn) { x.Size = 9 },
		func(x *api.Txn) { x.Size += 1 << 32 },
		func(x *api.Txn) { x.Done = nil },
		func(x *api.Txn) { x.Done = x.Done[:1] },
		func(x *api.Txn) { x.Done = x.Done[1:] },
		func(x *api.Txn) { x.Done = append(x.Done, api.Op{}) },
		func(x *api.Txn) { slices.Reverse(x.Done) },
		func(x *api.Txn) { x.Done[0].Key.Kind = 5 },
		func(x *api.Txn) { x.Done[0].Key.Sku = 4 },
		func(x *api.Txn) { x.Done[0].Key.Ware = 5 },
		func(x *api.Txn) { x.Done[0].Delta = -7 },
		func(x *api.Txn) { x.Done[1].Delta += 1 << 62 },
		func(x *api.Txn) { *x = api.Txn{} },
	}
	if y := clones([]api.Txn{x})[0]; !Same(x, y) || !Same(y, x) {
		t.Error("a transaction is not the same")
	}
	for i, change := range changes {
		y := clones([]api.Txn{x})[0]
		change(&y)
		if Same(x, y) || Same(y, x) || !Same(y, y) {
			t.Errorf("change %d is not seen", i)
		}
	}
	if !Same(api.Txn{}, api.Txn{Done: []api.Op{}}) || !Same(api.Txn{Done: []api.Op{}}, api.Txn{}) {
		t.Error("lists without an element are not the same")
	}
}

// P19.4

func TestTransactionsAreUndoneFromTheLastAdditionOn(t *testing.T) {
	for n := range api.MaxOps + 1 {
		for _, given := range []bool{false, true} {
			done := ops(n)
			j := New()
			j.Apply(10, begin(1, 2))
			for _, o := range done {
				j.Apply(20, add(2, o))
			}
			if given {
				j.Apply(30, abort(2))
			}
			for left := n; left > 0; left-- {
				if e := j.Apply(40, gone(2)); e != api.ErrState {
					t.Fatalf("it goes with %d left: error %d", left, e)
				}
				undoJust(t, j, done, left-1)
			}
			if _, is := Last(j.All()[0]); is {
				t.Fatal("something is left to be undone")
			}
			for _, o := range done {
				if e := j.Apply(50, undo(2, op(o.Key, -o.Delta))); e != api.ErrState {
					t.Fatalf("%v is undone again: error %d", o, e)
				}
			}
			applies(t, "all is undone", j, 60, gone(2), api.OK)
			applies(t, "it has gone", j, 70, gone(2), api.ErrUnknown)
		}
	}
}

// undoJust asks that just the addition i of those of transaction 2 can be undone, and undoes it.
func undoJust(t *testing.T, j *Journal, done []api.Op, i int) {
	t.Helper()
	for at, o := range done {
		if e := j.Apply(40, undo(2, op(o.Key, -o.Delta))); at != i && e != api.ErrState || at == i && e != api.OK {
			t.Fatalf("addition %d is undone where %d is the last one: error %d", at, i, e)
		}
		if at == i {
			break
		}
	}
	if x, is := j.Get(2); !is || !x.Dead || !slices.Equal(x.Done, done[:i]) {
		t.Fatalf("addition %d was undone: %v", i, x)
	}
	for _, o := range done[i+1:] {
		if e := j.Apply(40, undo(2, op(o.Key, -o.Delta))); e != api.ErrState {
			t.Fatalf("%v is undone again: error %d", o, e)
		}
	}
}

func TestWhatLastTellsUndoesAll(t *testing.T) {
	for _, was := range few() {
		j := New(was)
		n := len(was.Done)
		for left := n; left > 0; left-- {
			x, _ := j.Get(was.Id)
			o, is := Last(x)
			if len(x.Done) != left || !is {
				t.Fatalf("%d are left: %v", left, x)
			}
			if e := j.Apply(1, undo(was.Id, o)); e != api.OK {
				t.Fatal(o, e)
			}
		}
		x, _ := j.Get(was.Id)
		want := was
		want.Done, want.Dead, want.Size = nil, was.Dead || n > 0, was.Size+22*n
		if all(x) != all(want) {
			t.Errorf("%v is %v in the end; want %v", was, x, want)
		}
		applies(t, "all is undone", j, 1, gone(was.Id), api.OK)
	}
}

// All of P19.2, at once

// words are transactions, rising by Id, that do what the chapter's words say.
type words struct{ l []api.Txn }

func (w *words) at(id uint32) int {
	return slices.IndexFunc(w.l, func(x api.Txn) bool { return x.Id == id })
}

// apply does what a record that may be, of a kind that a journal has, makes of them.
func (w *words) apply(at int64, r api.Rec) api.Errno {
	i := w.at(r.Txn)
	if r.Kind == api.RcBegin {
		if i >= 0 || slices.ContainsFunc(w.l, func(x api.Txn) bool { return x.Saga == r.Saga }) {
			return api.ErrDup
		}
		w.l = append(w.l, api.Txn{Id: r.Txn, Saga: r.Saga, Step: r.Step, Comp: r.Comp, First: at, Size: 17})
		slices.SortFunc(w.l, func(a, b api.Txn) int { return int(int64(a.Id) - int64(b.Id)) })
		return api.OK
	}
	if i < 0 {
		return api.ErrUnknown
	}
	x := &w.l[i]
	n := len(x.Done)
	switch r.Kind {
	case api.RcAdd:
		if x.Dead || n >= 6 {
			return api.ErrState
		}
		x.Done = append(slices.Clone(x.Done), op(r.Key, r.Delta))
		x.Size += 22
	case api.RcCommit, api.RcAbort:
		if x.Dead {
			return api.ErrState
		}
		x.Dead = true
		x.Size += 11
	case api.RcUndo:
		if n == 0 || x.Done[n-1].Key != r.Key || x.Done[n-1].Delta+r.Delta != 0 {
			return api.ErrState
		}
		x.Done, x.Dead = slices.Clone(x.Done[:n-1]), true
		x.Size += 22
	case api.RcGone:
		if n > 0 {
			return api.ErrState
		}
	}
	if r.Kind == api.RcCommit || r.Kind == api.RcGone {
		w.l = slices.Delete(clones(w.l), i, i+1)
	}
	return api.OK
}

// some is a record of few sagas and transactions, of which many can be applied.
func some(r *rand.Rand, l []api.Txn) api.Rec {
	txn := uint32(1 + r.Intn(6))
	o := op(stock(uint8(r.Intn(2))), int64(1-2*r.Intn(2)))
	switch r.Intn(10) {
	case 0, 1:
		return api.Rec{Kind: api.RcBegin, Saga: uint32(1 + r.Intn(6)), Txn: txn, Step: uint8(r.Intn(5)), Comp: r.Intn(2) == 0}
	case 2:
		return []api.Rec{commit(txn), abort(txn)}[r.Intn(2)]
	case 3, 4:
		return gone(txn)
	case 5, 6:
		if i := slices.IndexFunc(l, func(x api.Txn) bool { return x.Id == txn }); i >= 0 && len(l[i].Done) > 0 && r.Intn(3) > 0 {
			done := l[i].Done[len(l[i].Done)-1]
			return undo(txn, op(done.Key, -done.Delta))
		}
		return undo(txn, o)
	}
	return add(txn, o)
}

func TestApplyGoesByTheWords(t *testing.T) {
	r := rand.New(rand.NewSource(19))
	seen := map[string]int{}
	for range 30 {
		j, w := New(), &words{}
		for range 300 {
			x := some(r, w.l)
			at := int64(r.Intn(1000) - 500)
			was, old := j.Copy(), clones(w.l)
			e, want := j.Apply(at, x), w.apply(at, x)
			seen[fmt.Sprint(x.Kind, want)]++
			if e != want {
				t.Fatalf("%v of %v is error %d; want %d", x, was.All(), e, want)
			}
			has(t, "it went on", j, w.l)
			has(t, "a copy stays", was, old)
		}
	}
	for _, kind := range []uint8{api.RcBegin, api.RcAdd, api.RcCommit, api.RcAbort, api.RcUndo, api.RcGone} {
		no := []api.Errno{api.ErrUnknown, api.ErrState}
		if kind == api.RcBegin {
			no = []api.Errno{api.ErrDup}
		}
		for _, e := range append(no, api.OK) {
			if seen[fmt.Sprint(kind, e)] < 50 {
				t.Errorf("kind %d with error %d: %d times", kind, e, seen[fmt.Sprint(kind, e)])
			}
		}
	}
}

// Rule 4: what is handed in and out

// spoil changes all that lies in a transaction's list, and behind it.
func spoil(x api.Txn) {
	for i := range x.Done[:cap(x.Done)] {
		x.Done[:cap(x.Done)][i] = op(api.Key{Kind: 99}, 99)
	}
}

func TestWhatIsHandedInIsLeftAlone(t *testing.T) {
	given := few()
	for i := range given {
		// With room behind, into which nothing may be written.
		given[i].Done = append(make([]api.Op, 0, 30), given[i].Done...)
	}
	j := New(given...)
	for _, r := range []api.Rec{add(2, op(stock(0), 1)), add(6, op(stock(0), 1)), undo(4, op(ops(6)[5].Key, -6))} {
		if e := j.Apply(1, r); e != api.OK {
			t.Fatal(r, e)
		}
	}
	if fmt.Sprint(given) != fmt.Sprint(few()) {
		t.Errorf("what was handed in has become %v", given)
	}
	for i, n := range []int{2, 6, 0, 20} {
		for _, o := range given[i].Done[n:30] {
			if o != (api.Op{}) {
				t.Errorf("behind transaction %d stands %v", given[i].Id, o)
			}
		}
	}
}

func TestAJournalIsItsOwn(t *testing.T) {
	given := few()
	j := New(given...)
	for _, x := range given {
		spoil(x)
	}
	has(t, "what was handed in was changed", j, few())
	for _, x := range few() {
		got, _ := j.Get(x.Id)
		spoil(got)
		got, _ = j.Of(x.Saga)
		spoil(got)
	}
	for _, x := range j.All() {
		spoil(x)
	}
	has(t, "what was handed out was changed", j, few())
}

func TestWhatWasToldStays(t *testing.T) {
	j := New(few()...)
	got, _ := j.Get(2)
	of, _ := j.Of(5)
	l := j.All()
	o, _ := Last(got)
	for _, r := range []api.Rec{add(2, op(stock(3), 5)), undo(2, op(stock(3), -5)), undo(2, o), commit(6)} {
		if e := j.Apply(1, r); e != api.OK {
			t.Fatal(r, e)
		}
	}
	if want := few(); all(got) != all(want[0]) || all(of) != all(want[0]) || fmt.Sprint(l) != fmt.Sprint(want) {
		t.Errorf("what was told has become %v, %v and %v", got, of, l)
	}
}

func TestListsOfOneAnswerShareNothing(t *testing.T) {
	done := ops(5)
	j := New(api.Txn{Id: 1, Done: done}, api.Txn{Id: 2, Done: done}, api.Txn{Id: 3, Done: done[:3]})
	l := j.All()
	for i := range l {
		was := clones(l)
		spoil(l[i])
		for k := range l {
			if k != i && !Same(l[k], was[k]) {
				t.Errorf("transaction %d has changed with %d", l[k].Id, l[i].Id)
			}
		}
	}
}

func TestManyTransactions(t *testing.T) {
	var l []api.Txn
	for i := range 20000 {
		l = append(l, api.Txn{Id: uint32(20000 - i), Saga: uint32(i), First: int64(i * 7 % 20000)})
	}
	l = append(l, api.Txn{Id: 20001, First: 1, Done: make([]api.Op, 1<<20)})
	j := New(l...)
	all := j.All()
	for i, x := range all {
		if x.Id != uint32(i+1) {
			t.Fatalf("number %d has the Id %d", i, x.Id)
		}
	}
	if at, ok := j.First(); len(all) != 20001 || len(all[20000].Done) != 1<<20 || at != 0 || !ok {
		t.Errorf("%d transactions, the first one at %d", len(all), at)
	}
	for range 1000 {
		// What is wrong is told without going through the list.
		if e := j.Apply(0, gone(20001)); e != api.ErrState {
			t.Fatal(e)
		}
	}
}
