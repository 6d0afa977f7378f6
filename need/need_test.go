package need

import (
	"fmt"
	"math"
	"slices"
	"testing"

	"pledge/api"
	"pledge/course"
	"pledge/journal"
	"pledge/rec"
)

const (
	greatest = math.MaxInt64
	last     = math.MaxUint32
)

// What the frames of each kind of record have: 6 bytes, the kind's one, and what the kind has. The tests reckon by these, and not by what rec says.
const (
	begin  = 6 + 1 + 4 + 4 + 1 + 1
	add    = 6 + 1 + 4 + 3 + 8
	commit = 6 + 1 + 4
	abort  = 6 + 1 + 4
	undo   = 6 + 1 + 4 + 3 + 8
	gone   = 6 + 1 + 4
	back   = 6 + 1 + 4
	done   = 6 + 1 + 4 + 1
	start  = 6 + 1 + 4 + 2 + 20 // and what the program's lists have
)

func line(sku uint8, qty int64) api.Line { return api.Line{Sku: sku, Qty: qty} }

func take(order uint32, sku, ware uint8, qty int64) api.Take {
	return api.Take{Order: order, Sku: sku, Ware: ware, Qty: qty}
}

// plan is a program, how many additions each of its steps has, and how many bytes its lists have.
type plan struct {
	prog  api.Program
	adds  []int
	lists int
}

// plans are programs of each kind, with one step and with as many as there may be; the greatest step is the first, one in the middle, or the last one.
func plans() []plan {
	return []plan{
		{api.Program{Kind: api.RqTransfer, Sku: 1, From: 0, To: 2, Qty: 4}, []int{1, 1}, 0},
		{api.Program{Kind: api.RqRestock, Sku: 3, To: 3, Qty: greatest}, []int{1}, 0},
		{api.Program{Kind: api.RqRestock, Sku: 2, To: 1, Qty: 9, Takes: []api.Take{take(6, 2, 1, 3), take(4, 2, 1, 2)}}, []int{1, 2, 1}, 2 * 14},
		{api.Program{Kind: api.RqPlace, Order: 7, Lines: []api.Line{line(0, 7), line(1, 2), line(3, 4)},
			Takes: []api.Take{take(7, 0, 0, 1), take(7, 0, 1, 3), take(7, 1, 1, 2), take(7, 3, 1, 1), take(7, 0, 2, 1), take(7, 3, 3, 3)},
			Owes:  []api.Line{line(0, 2)}}, []int{2, 6, 2, 2, 1}, 4*9 + 6*14},
		{api.Program{Kind: api.RqPlace, Order: last, Policy: api.PoWhole, Lines: []api.Line{line(2, 5)},
			Takes: []api.Take{take(last, 2, 3, 5)}}, []int{2}, 9 + 14},
		{api.Program{Kind: api.RqCancel, Order: 9, Takes: []api.Take{take(9, 1, 2, 6)}, Owes: []api.Line{line(0, 1), line(1, 3), line(2, 8)}}, []int{2, 3}, 14 + 3*9},
		{api.Program{Kind: api.RqCancel, Order: 9, Owes: []api.Line{line(3, 1)}}, []int{1}, 9},
		{api.Program{Kind: api.RqShip, Order: 5, Takes: []api.Take{take(5, 0, 3, 2)}}, []int{2}, 14},
		{api.Program{Kind: api.RqReturn, Order: 1, Takes: []api.Take{take(1, 0, 0, 2), take(1, 2, 0, 5), take(1, 2, 1, 1)}}, []int{4, 2}, 3 * 14},
		greatestPlan(),
	}
}

// greatestPlan is one that has as much as a program may have.
func greatestPlan() plan {
	p := api.Program{Kind: api.RqCancel, Order: 3, Owes: []api.Line{line(1, 1), line(2, 1), line(3, 1)}}
	for ware := range uint8(api.MaxWares) {
		for sku := range uint8(api.MaxLines) {
			p.Takes = append(p.Takes, take(3, sku, ware, greatest))
		}
	}
	return plan{p, []int{6, 6, 6, 6, 3}, 12*14 + 3*9}
}

// badPrograms are programs that may not be.
func badPrograms() []api.Program {
	return []api.Program{
		{},
		{Kind: api.RqQuery},
		{Kind: 255, Qty: 4},
		{Kind: api.RqTransfer, Sku: api.MaxSkus, From: 0, To: 2, Qty: 4},
		{Kind: api.RqTransfer, Sku: 1, From: 0, To: api.MaxWares, Qty: 4},
		{Kind: api.RqTransfer, Sku: 1, From: 2, To: 2, Qty: 4},
		{Kind: api.RqTransfer, Sku: 1, From: 0, To: 2},
		{Kind: api.RqTransfer, Order: 3, Sku: 1, From: 0, To: 2, Qty: 4},
		{Kind: api.RqShip, Order: 3},
		{Kind: api.RqShip, Takes: []api.Take{take(0, 0, 0, 1)}},
		{Kind: api.RqShip, Order: 3, Takes: slices.Repeat([]api.Take{take(3, 0, 0, 1)}, api.MaxTakes+1)},
	}
}

// badCourses are courses of a plan that may not be, forth and back, with and without a transaction.
func badCourses(p plan) []api.Course {
	var l []api.Course
	for _, txn := range []uint32{0, 3} {
		for _, goesBack := range []bool{false, true} {
			good := api.Course{Saga: 7, Prog: p.prog, Back: goesBack, Txn: txn}
			with := func(change func(*api.Course)) {
				c := good
				change(&c)
				l = append(l, c)
			}
			with(func(c *api.Course) { c.Saga = 0 })
			for _, at := range []int{math.MinInt, -1, len(p.adds) + 1, len(p.adds) + 256, math.MaxInt} {
				with(func(c *api.Course) { c.Step = at })
			}
			for _, tries := range []int{math.MinInt, -1} {
				with(func(c *api.Course) { c.Tries = tries })
			}
			for _, bad := range badPrograms() {
				with(func(c *api.Course) { c.Prog = bad })
			}
		}
	}
	return l
}

// pass is what steps of so many additions cost that are committed.
func pass(adds ...int) int {
	n := 0
	for _, x := range adds {
		n += begin + x*add + commit
	}
	return n
}

// fail is what a step of so many additions costs that is given up.
func fail(adds int) int { return begin + adds*add + abort + adds*undo + gone }

// attempt is the greatest of what a plan's steps cost that are given up.
func (p plan) attempt() int { return fail(slices.Max(p.adds)) }

// rest is what a plan costs yet where so many of its steps stand, and it may be thrown back so often.
func (p plan) rest(at, throws int, goesBack bool) int {
	if goesBack {
		return pass(p.adds[:at]...) + done
	}
	return pass(p.adds[at:]...) + throws*p.attempt() + back + pass(p.adds...) + done
}

// retries are how often a saga may try again, and how often that counts as.
func retries() map[int]int {
	return map[int]int{math.MinInt: 0, -1: 0, 0: 0, 1: 1, 2: 2, 3: 3, 4: 4, 5: 4, 9: 4, math.MaxInt - 1: 4, math.MaxInt: 4}
}

// visit goes through all courses of a plan without a transaction, with what each one costs yet.
func visit(p plan, f func(c api.Course, retry, rest int)) {
	for retry, counts := range retries() {
		for _, goesBack := range []bool{false, true} {
			for at := range len(p.adds) + 1 {
				for _, tries := range []int{0, 1, 2, 3, 4, 5, 6, math.MaxInt - 1, math.MaxInt} {
					throws := 0
					if tries <= counts {
						throws = counts - tries + 1
					}
					f(api.Course{Saga: 7, Prog: p.prog, Back: goesBack, Step: at, Tries: tries}, retry, p.rest(at, throws, goesBack))
				}
			}
		}
	}
}

// text is all that something has.
func text(x any) string { return fmt.Sprint(x) }

// P21.1

// steps asks for what a step costs that has so many additions.
func steps(t *testing.T, s api.Step, adds int) {
	t.Helper()
	if n := Pass(s); n != pass(adds) {
		t.Errorf("Pass of %v is %d; want %d", s, n, pass(adds))
	}
	if n := Fail(s); n != fail(adds) {
		t.Errorf("Fail of %v is %d; want %d", s, n, fail(adds))
	}
}

func TestPassAndFail(t *testing.T) {
	items := []api.Line{line(0, 1), line(1, greatest), line(3, 5)}
	of := map[uint8]int{api.TgTake: 2, api.TgFree: 2, api.TgSend: 2, api.TgBack: 2, api.TgPut: 1, api.TgDraw: 1, api.TgOwe: 1, api.TgPay: 1}
	for tag := range uint8(api.Tags + 3) {
		for n := range len(items) + 1 {
			for _, ware := range []uint8{0, 3, 255} {
				steps(t, api.Step{Tag: tag, Ware: ware, Items: items[:n]}, n*of[tag])
			}
		}
	}
	steps(t, api.Step{}, 0)
	steps(t, api.Step{Tag: 255, Items: items}, 0)
}

func TestPassAndFailOfStepsThatMayNotBe(t *testing.T) {
	for _, qty := range []int64{0, -1, math.MinInt64} {
		steps(t, api.Step{Tag: api.TgTake, Items: []api.Line{line(0, qty)}}, 0)
		steps(t, api.Step{Tag: api.TgTake, Items: []api.Line{line(0, 2), line(1, qty), line(2, 2)}}, 4)
		steps(t, api.Step{Tag: api.TgPay, Items: []api.Line{line(0, qty), line(1, 1)}}, 1)
	}
	steps(t, api.Step{Tag: api.TgPut, Items: []api.Line{line(200, 1), line(200, 1)}}, 2)
	steps(t, api.Step{Tag: api.TgTake, Items: slices.Repeat([]api.Line{line(0, greatest)}, api.MaxLines+1)}, 8)
	steps(t, api.Step{Tag: api.TgSend, Items: slices.Repeat([]api.Line{line(0, 1)}, 100000)}, 200000)
}

func TestPassAndFailGoByWhatRecordsHave(t *testing.T) {
	costs := map[uint8]int{
		api.RcBegin: begin, api.RcAdd: add, api.RcCommit: commit, api.RcAbort: abort,
		api.RcUndo: undo, api.RcGone: gone, api.RcBack: back, api.RcDone: done,
	}
	for kind, n := range costs {
		if rec.Cost(kind) != n {
			t.Errorf("a record of kind %d has %d bytes; want %d", kind, rec.Cost(kind), n)
		}
	}
}

func TestAttempt(t *testing.T) {
	for _, p := range plans() {
		if n := Attempt(p.prog); n != p.attempt() {
			t.Errorf("of %v: %d; want %d", p.prog, n, p.attempt())
		}
	}
	for _, p := range badPrograms() {
		if n := Attempt(p); n != 0 {
			t.Errorf("of %v: %d", p, n)
		}
	}
}

// P21.2

func TestRest(t *testing.T) {
	for _, p := range plans() {
		visit(p, func(c api.Course, retry, rest int) {
			for _, txn := range []uint32{0, 3, last} {
				if c.Txn = txn; Rest(c, retry) != rest {
					t.Errorf("of %v, retry %d: %d; want %d", c, retry, Rest(c, retry), rest)
				}
			}
		})
	}
}

func TestRestOfWhatMayNotBe(t *testing.T) {
	for _, p := range plans() {
		for _, c := range badCourses(p) {
			for retry := range retries() {
				if n := Rest(c, retry); n != 0 {
					t.Errorf("of %v, retry %d: %d", c, retry, n)
				}
			}
		}
	}
	if n := Rest(api.Course{}, 2); n != 0 {
		t.Error(n)
	}
}

// P21.3

func TestHoldWhereNoTransactionIsOpen(t *testing.T) {
	for _, p := range plans() {
		visit(p, func(c api.Course, retry, rest int) {
			want := rest + p.attempt()
			for _, x := range []api.Txn{{}, {Id: 3, Saga: 7, Size: 39}, {Size: 39, Dead: true}, {Size: math.MaxInt}, {Size: math.MinInt, Dead: true}} {
				if n := Hold(c, x, retry); n != want {
					t.Errorf("of %v with %v, retry %d: %d; want %d", c, x, retry, n, want)
				}
			}
		})
	}
}

func TestHoldWhereATransactionIsOpen(t *testing.T) {
	for _, p := range plans() {
		visit(p, func(c api.Course, retry, rest int) {
			c.Txn = 3
			for _, dead := range []bool{false, true} {
				all := rest + p.attempt()
				if dead && !c.Back {
					all += p.attempt()
				}
				// Only its size and whether it is dead count.
				others := []api.Txn{{Id: 3, Saga: 7}, {}, {Id: 9, Saga: 8, Step: 4, Comp: true, Done: []api.Op{{Delta: 1}}, First: 90}}
				for i, size := range []int{0, 1, 17, 39, -1, -100, all - 1, all, all + 1, 2 * all, math.MaxInt} {
					want := 0
					if size < all {
						want = all - size
					}
					x := others[i%len(others)]
					x.Size, x.Dead = size, dead
					if n := Hold(c, x, retry); n != want {
						t.Errorf("of %v with %v, retry %d: %d; want %d", c, x, retry, n, want)
					}
				}
			}
		})
	}
}

func TestHoldDoesNotGoRound(t *testing.T) {
	p := plans()[3]
	c := api.Course{Saga: 7, Prog: p.prog, Txn: 3}
	all := Hold(c, api.Txn{}, 0)
	for _, x := range []struct{ size, want int }{
		{all - math.MaxInt + 1, math.MaxInt - 1},
		{all - math.MaxInt, math.MaxInt},
		{all - math.MaxInt - 1, math.MaxInt},
		{math.MinInt + 1, math.MaxInt},
		{math.MinInt, math.MaxInt},
	} {
		if n := Hold(c, api.Txn{Size: x.size}, 0); n != x.want {
			t.Errorf("with size %d: %d; want %d", x.size, n, x.want)
		}
	}
}

func TestHoldOfWhatMayNotBe(t *testing.T) {
	for _, p := range plans() {
		for _, c := range badCourses(p) {
			for retry := range retries() {
				for _, x := range []api.Txn{{}, {Id: 3, Size: 39}, {Id: 3, Size: -39, Dead: true}, {Size: math.MinInt}} {
					if n := Hold(c, x, retry); n != 0 {
						t.Errorf("of %v with %v, retry %d: %d", c, x, retry, n)
					}
				}
			}
		}
	}
}

func TestStart(t *testing.T) {
	for _, p := range plans() {
		for retry, counts := range retries() {
			want := start + p.lists + p.rest(0, counts+1, false) + p.attempt()
			if n := Start(p.prog, retry); n != want {
				t.Errorf("of %v, retry %d: %d; want %d", p.prog, retry, n, want)
			}
		}
	}
}

func TestStartOfWhatMayNotBe(t *testing.T) {
	for _, p := range badPrograms() {
		for retry := range retries() {
			if n := Start(p, retry); n != 0 {
				t.Errorf("of %v, retry %d: %d", p, retry, n)
			}
		}
	}
}

// P21.4

// run is a course with its transaction.
type run struct {
	course api.Course
	txn    api.Txn
}

// after is a run behind a record, which has to fit.
func (r run) after(t *testing.T, x api.Rec) run {
	t.Helper()
	c, e := course.Apply(r.course, x)
	if e != api.OK {
		t.Fatalf("%v does not fit %v: %d", x, r.course, e)
	}
	if x.Kind == api.RcBack || x.Kind == api.RcDone {
		return run{course: c}
	}
	j := journal.New()
	if r.course.Txn != 0 {
		j = journal.New(r.txn)
	}
	if e := j.Apply(90, x); e != api.OK {
		t.Fatalf("%v does not fit %v: %d", x, r.txn, e)
	}
	txn, _ := j.Of(r.course.Saga)
	return run{c, txn}
}

// nexts are the records that may come next of a run: what it says by itself, and that it is given up.
func (r run) nexts(retry int) []api.Rec {
	l := []api.Rec{course.Next(r.course, r.txn, retry, 3)}
	if r.course.Txn != 0 && !r.course.Back && !r.txn.Dead {
		l = append(l, api.Rec{Kind: api.RcAbort, Txn: r.txn.Id})
	}
	return l
}

// dig goes through all that may become of a run, asks that each record takes no more than what is held falls by, and tells how many bytes the run may take at most. What it has found of a run it keeps in most.
func dig(t *testing.T, r run, retry int, most map[string]int) int {
	t.Helper()
	name := text(r)
	if n, is := most[name]; is {
		return n
	}
	held, n := Hold(r.course, r.txn, retry), 0
	for _, x := range r.nexts(retry) {
		size, left, then := rec.Size(x), 0, 0
		// A saga that is over is no longer held anything for.
		if r := r.after(t, x); x.Kind != api.RcDone {
			left, then = Hold(r.course, r.txn, retry), dig(t, r, retry, most)
		}
		if size < 1 || held-left < size {
			t.Fatalf("%v takes %d bytes of %v, of which %d were held, and %d are", x, size, r, held, left)
		}
		n = max(n, size+then)
	}
	if n > held {
		t.Fatalf("%v may take %d bytes, and %d are held", r, n, held)
	}
	most[name] = n
	return n
}

func TestNothingTakesMoreThanWasHeld(t *testing.T) {
	for _, p := range plans() {
		for retry := -1; retry <= api.MaxRetry; retry++ {
			r := api.Rec{Kind: api.RcStart, Saga: last, Prog: p.prog}
			c, e := course.Start(r)
			if e != api.OK {
				t.Fatal(e)
			}
			n := rec.Size(r) + dig(t, run{course: c}, retry, map[string]int{})
			// What it takes by itself: all its steps, or, where it may not even try once, none.
			least := start + p.lists + pass(p.adds...) + done
			if retry < 0 {
				least = start + p.lists + back + done
			}
			if most := Start(p.prog, retry); n > most || n < least {
				t.Errorf("%v with retry %d takes %d bytes; at its start %d were held, and it needs %d", p.prog, retry, n, most, least)
			}
		}
	}
}

func TestWhatAStepCostsIsWhatItsRecordsTake(t *testing.T) {
	for _, p := range plans() {
		for at, adds := range p.adds {
			for kills := range 2 {
				r, n := run{course: api.Course{Saga: 7, Prog: p.prog, Step: at}}, 0
				for n == 0 || r.course.Txn != 0 {
					x := course.Next(r.course, r.txn, 2, 3)
					if kills == 1 && x.Kind == api.RcCommit {
						x = api.Rec{Kind: api.RcAbort, Txn: r.txn.Id}
					}
					n += rec.Size(x)
					r = r.after(t, x)
				}
				if want := []int{pass(adds), fail(adds)}[kills]; n != want {
					t.Errorf("step %d of %v took %d bytes; want %d", at, p.prog, n, want)
				}
			}
		}
	}
}

func TestExample(t *testing.T) {
	s := api.Step{Tag: api.TgPut, Ware: 1, Items: []api.Line{line(0, 5)}}
	if n := Pass(s); n != 17+22+11 {
		t.Error(n)
	}
	if n := Fail(s); n != 83 {
		t.Error(n)
	}
	if n := Attempt(api.Program{Kind: api.RqRestock, To: 1, Qty: 5}); n != 83 {
		t.Error(n)
	}
}

// Rule 4: what is handed in

func TestWhatIsHandedInIsNotChanged(t *testing.T) {
	for _, p := range plans() {
		c := api.Course{Saga: 7, Prog: p.prog, Step: 1, Txn: 3}
		x := api.Txn{Id: 3, Saga: 7, Done: []api.Op{{Key: api.Key{Kind: api.KStock}, Delta: -4}}, Size: 39, Dead: true}
		s := api.Step{Tag: api.TgTake, Items: []api.Line{line(2, 3), line(0, -1)}}
		was := text([]any{p, c, x, s})
		Pass(s)
		Fail(s)
		Attempt(p.prog)
		Rest(c, 2)
		Hold(c, x, 2)
		Start(p.prog, 2)
		if is := text([]any{p, c, x, s}); is != was {
			t.Errorf("%s was %s", is, was)
		}
	}
}
