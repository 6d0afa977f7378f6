package op

import (
	"cmp"
	"math"
	"math/big"
	"slices"
	"testing"

	"pledge/api"
)

const (
	least    = math.MinInt64
	greatest = math.MaxInt64
)

// stock, held, out and owed are keys of those kinds.
func stock(sku, ware uint8) api.Key { return api.Key{Kind: api.KStock, Sku: sku, Ware: ware} }
func held(sku, ware uint8) api.Key  { return api.Key{Kind: api.KHeld, Sku: sku, Ware: ware} }
func out(sku uint8) api.Key         { return api.Key{Kind: api.KOut, Sku: sku} }
func owed(sku uint8) api.Key        { return api.Key{Kind: api.KOwed, Sku: sku} }

// add is an addition.
func add(k api.Key, d int64) api.Op { return api.Op{Key: k, Delta: d} }

// row is additions to one key.
func row(k api.Key, deltas ...int64) []api.Op {
	var l []api.Op
	for _, d := range deltas {
		l = append(l, add(k, d))
	}
	return l
}

// around are keys that differ from one another in one part, or in several, rising; of many of them there is no field.
func around() []api.Key {
	var l []api.Key
	for _, kind := range []uint8{0, 1, 2, 4, 5, 255} {
		for _, sku := range []uint8{0, 1, 3, 4, 128, 255} {
			for _, ware := range []uint8{0, 1, 4, 127, 255} {
				l = append(l, api.Key{Kind: kind, Sku: sku, Ware: ware})
			}
		}
	}
	return l
}

// deltas are numbers next to 0, to halves, and to the ends, without the least one.
func deltas() []int64 {
	return []int64{0, 1, -1, 2, -3, 7, 1 << 31, -1 << 32, 1 << 62, -1 << 62, greatest, greatest - 1, least + 1, least + 2}
}

// chance is numbers that hang on a seed alone.
type chance uint64

// below is the next number, from 0 on.
func (c *chance) below(n int) int {
	*c = *c*6364136223846793005 + 1442695040888963407
	return int(uint64(*c) >> 33 % uint64(n))
}

// mixed are n additions to few keys, the deltas out of those that are handed on.
func mixed(seed, n int, from []int64) []api.Op {
	c := chance(seed)
	keys := []api.Key{owed(3), stock(0, 1), stock(1, 0), held(0, 1), out(0)}[:1+c.below(5)]
	var l []api.Op
	for range n {
		l = append(l, add(keys[c.below(len(keys))], from[c.below(len(from))]))
	}
	return l
}

// whole is the sum of those deltas of a key that are wanted, in whole numbers.
func whole(l []api.Op, k api.Key, wanted func(int64) bool) *big.Int {
	sum := new(big.Int)
	for _, o := range l {
		if o.Key == k && wanted(o.Delta) {
			sum.Add(sum, big.NewInt(o.Delta))
		}
	}
	return sum
}

func any64(int64) bool    { return true }
func below0(d int64) bool { return d < 0 }
func above0(d int64) bool { return d > 0 }

// number is a key's three parts as one number, which rises as keys do.
func number(k api.Key) int {
	return int(k.Kind)<<16 | int(k.Sku)<<8 | int(k.Ware)
}

// wantNet is Net by the chapter's words.
func wantNet(l []api.Op) ([]api.Op, bool) {
	var keys []api.Key
	for _, o := range l {
		if !slices.Contains(keys, o.Key) {
			keys = append(keys, o.Key)
		}
	}
	slices.SortFunc(keys, func(a, b api.Key) int { return cmp.Compare(number(a), number(b)) })
	var net []api.Op
	for _, k := range keys {
		sum := whole(l, k, any64)
		if !sum.IsInt64() {
			return nil, false
		}
		if sum.Sign() != 0 {
			net = append(net, add(k, sum.Int64()))
		}
	}
	return net, true
}

// told asks for a list and a bool; beside false there is no list.
func told(t *testing.T, what string, l []api.Op, ok bool, want []api.Op, is bool) {
	t.Helper()
	if !slices.Equal(l, want) || ok != is {
		t.Errorf("%s: %v, %t; want %v, %t", what, l, ok, want, is)
	}
}

// parts asks for Low and High of a key by the chapter's words.
func parts(t *testing.T, what string, l []api.Op, k api.Key) {
	t.Helper()
	sides := []struct {
		name   string
		call   func([]api.Op, api.Key) (int64, bool)
		wanted func(int64) bool
	}{{"Low", Low, below0}, {"High", High, above0}}
	for _, s := range sides {
		var want int64
		sum := whole(l, k, s.wanted)
		if sum.IsInt64() {
			want = sum.Int64()
		}
		if x, ok := s.call(l, k); x != want || ok != sum.IsInt64() {
			t.Errorf("%s: %s of %v is %d, %t; want %d", what, s.name, k, x, ok, sum)
		}
	}
}

// turns hands on each order of l.
func turns(l []api.Op, see func([]api.Op)) {
	var place func(int)
	place = func(i int) {
		if i == len(l) {
			see(l)
			return
		}
		for j := i; j < len(l); j++ {
			l[i], l[j] = l[j], l[i]
			place(i + 1)
			l[i], l[j] = l[j], l[i]
		}
	}
	place(0)
}

// P11.1

func TestNeg(t *testing.T) {
	cases := []struct {
		what    string
		l, want []api.Op
	}{
		{"nil", nil, nil},
		{"none", []api.Op{}, nil},
		{"one", row(owed(0), 5), row(owed(0), -5)},
		{"one below 0", row(stock(3, 2), -5), row(stock(3, 2), 5)},
		{"0", row(out(1), 0), row(out(1), 0)},
		{"the greatest number", row(out(1), greatest), row(out(1), least+1)},
		{"next to the least number", row(out(1), least+1), row(out(1), greatest)},
		{"one key", row(held(1, 1), 1, 2, -3, 0, 2), row(held(1, 1), -2, 0, 3, -2, -1)},
		{"a taking", []api.Op{add(stock(0, 1), -3), add(held(0, 1), 3)}, []api.Op{add(held(0, 1), -3), add(stock(0, 1), 3)}},
		{"keys out of order", []api.Op{add(owed(1), 1), add(stock(0, 0), 2), add(out(3), 3), add(stock(0, 0), -2)}, []api.Op{add(stock(0, 0), 2), add(out(3), -3), add(stock(0, 0), -2), add(owed(1), -1)}},
		{"no fields", []api.Op{add(api.Key{}, 4), add(api.Key{Kind: 255, Sku: 254, Ware: 253}, -6)}, []api.Op{add(api.Key{Kind: 255, Sku: 254, Ware: 253}, 6), add(api.Key{}, -4)}},
	}
	for _, c := range cases {
		l, ok := Neg(c.l)
		told(t, c.what, l, ok, c.want, true)
	}
}

func TestNegOfMany(t *testing.T) {
	for seed := range 300 {
		l := mixed(seed, seed, deltas())
		back, ok := Neg(l)
		if len(back) != len(l) || !ok {
			t.Fatalf("of %d additions: %d, %t", len(l), len(back), ok)
		}
		for i, o := range l {
			if want := add(o.Key, -o.Delta); back[len(l)-1-i] != want {
				t.Errorf("addition %d of %d: %v; want %v", i, len(l), back[len(l)-1-i], want)
			}
		}
	}
}

func TestNegOfTheLeastNumber(t *testing.T) {
	for n := 1; n <= 9; n++ {
		for at := range n {
			l := mixed(n, n, []int64{5, -7, greatest})
			l[at].Delta = least
			back, ok := Neg(l)
			told(t, "the least number among others", back, ok, nil, false)
		}
	}
	// That all of them come to a number that has an opposite plays no part.
	back, ok := Neg(row(stock(0, 0), least, greatest, 1))
	told(t, "the least number, and its counterpart", back, ok, nil, false)
}

// P11.2

func TestNet(t *testing.T) {
	cases := []struct {
		what    string
		l, want []api.Op
	}{
		{"nil", nil, nil},
		{"none", []api.Op{}, nil},
		{"the chapter's example", []api.Op{add(owed(0), 5), add(stock(0, 0), -2), add(owed(0), -5)}, row(stock(0, 0), -2)},
		{"one", row(owed(0), 5), row(owed(0), 5)},
		{"0", row(owed(0), 0), nil},
		{"nothing but 0", row(owed(0), 0, 0, 0), nil},
		{"a sum of 0", row(owed(0), 2, 3, -5), nil},
		{"sums of 0", []api.Op{add(owed(0), 2), add(out(0), -3), add(out(0), 3), add(owed(0), -2)}, nil},
		{"one key", row(held(2, 3), 2, 3, -6, 0), row(held(2, 3), -1)},
		{"keys that fall", []api.Op{add(owed(0), 1), add(out(0), 2), add(held(0, 0), 3), add(stock(0, 0), 4)}, []api.Op{add(stock(0, 0), 4), add(held(0, 0), 3), add(out(0), 2), add(owed(0), 1)}},
		{"articles and warehouses", []api.Op{add(stock(1, 0), 1), add(stock(0, 1), 2), add(stock(0, 0), 3), add(stock(0, 1), 5)}, []api.Op{add(stock(0, 0), 3), add(stock(0, 1), 7), add(stock(1, 0), 1)}},
		{"the greatest number", row(out(0), greatest), row(out(0), greatest)},
		{"the least number", row(out(0), least), row(out(0), least)},
		{"up to the greatest number", row(out(0), greatest-3, 1, 2), row(out(0), greatest)},
		{"down to the least number", row(out(0), least+3, -1, -2), row(out(0), least)},
		{"both ends", row(out(0), least, greatest), row(out(0), -1)},
		{"both ends, to nothing", row(out(0), least, greatest, 1), nil},
		{"beyond the end, and back", row(out(0), greatest, 1, -1), row(out(0), greatest)},
		{"below the end, and back", row(out(0), least, -1, 1), row(out(0), least)},
		{"far beyond, and back", row(out(0), greatest, greatest, greatest, least, least, least), row(out(0), -3)},
	}
	for _, c := range cases {
		l, ok := Net(c.l)
		told(t, c.what, l, ok, c.want, true)
	}
}

func TestNetOfASumBeyond64Bits(t *testing.T) {
	sums := [][]int64{
		{greatest, 1},
		{least, -1},
		{1 << 62, 1 << 62},
		{greatest, 1, -1, 1},
		{greatest, greatest, 2},    // 2^64: its lower half is 0
		{least, least},             // likewise
		{greatest, greatest, 7},    // its lower half is 5
		{least, least, least},      // its lower half is the least number
		{least, least, least, -60}, // its lower half is above 0
	}
	for _, s := range sums {
		l, ok := Net(row(stock(1, 1), s...))
		told(t, "a sum alone", l, ok, nil, false)
		// It is refused wherever its key stands among others, and whatever these come to.
		for _, k := range around() {
			if k == stock(1, 1) {
				continue
			}
			l, ok = Net(append(row(stock(1, 1), s...), add(k, 5)))
			told(t, "ahead of another key", l, ok, nil, false)
			l, ok = Net(append(row(k, 5, -5), row(stock(1, 1), s...)...))
			told(t, "behind another key that comes to nothing", l, ok, nil, false)
		}
	}
}

func TestNetKeepsKeysApart(t *testing.T) {
	// Together they would be beyond 64 bits, and each alone is not.
	var l, want []api.Op
	for i, k := range around() {
		l = append(l, add(k, greatest-int64(i)))
	}
	want = slices.Clone(l)
	slices.Reverse(l)
	net, ok := Net(l)
	told(t, "keys that fall", net, ok, want, true)
	for i := range l {
		l[i] = want[i*7%len(want)]
	}
	net, ok = Net(l)
	told(t, "keys out of order", net, ok, want, true)
}

func TestNetIsTheSameInEachOrder(t *testing.T) {
	lists := [][]api.Op{
		row(out(0), greatest, greatest, least, least, 3, -1),
		append(row(out(0), greatest, 1, -1), row(owed(0), least, -1, 2)...),
		append(row(stock(0, 0), 1, -1), row(held(0, 0), greatest, 1, 0)...),
		{add(owed(1), 1), add(owed(0), 1), add(out(1), 1), add(held(0, 1), 1), add(held(1, 0), 1), add(stock(3, 3), 1)},
	}
	for _, l := range lists {
		want, is := wantNet(l)
		turns(l, func(l []api.Op) {
			net, ok := Net(l)
			told(t, "another order", net, ok, want, is)
		})
	}
}

func TestNetGoesByTheWords(t *testing.T) {
	seen := map[bool]int{}
	for seed := range 4000 {
		from := []int64{0, 1, -1, 5, -5}
		if seed%2 == 1 {
			from = append(deltas(), least)
		}
		l := mixed(seed, seed%23, from)
		want, is := wantNet(l)
		seen[is]++
		for range 3 {
			net, ok := Net(l)
			told(t, "mixed additions", net, ok, want, is)
		}
	}
	if seen[false] < 100 || seen[true] < 100 {
		t.Errorf("refused and taken: %v", seen)
	}
}

func TestNetOfVeryMany(t *testing.T) {
	const n = 1 << 16
	ups := slices.Repeat(row(owed(0), greatest), n)
	downs := slices.Repeat(row(owed(0), least), n)
	l, ok := Net(ups)
	told(t, "all up", l, ok, nil, false)
	l, ok = Net(downs)
	told(t, "all down", l, ok, nil, false)
	l, ok = Net(slices.Concat(ups, downs))
	told(t, "up and down", l, ok, row(owed(0), -n), true)
	l, ok = Net(slices.Concat(downs, ups, row(stock(0, 0), 1), row(owed(0), n)))
	told(t, "down and up, to nothing", l, ok, row(stock(0, 0), 1), true)
}

// P11.3

func TestLowAndHigh(t *testing.T) {
	k := held(1, 2)
	cases := []struct {
		l         []int64
		low, high int64
	}{
		{nil, 0, 0},
		{[]int64{0}, 0, 0},
		{[]int64{5}, 0, 5},
		{[]int64{-5}, -5, 0},
		{[]int64{5, -5}, -5, 5},
		{[]int64{1, -2, 0, 3, -4}, -6, 4},
		{[]int64{greatest}, 0, greatest},
		{[]int64{least}, least, 0},
		{[]int64{least, greatest}, least, greatest},
		{[]int64{greatest - 1, least + 1, 1, -1}, least, greatest},
		{[]int64{-1 << 62, -1 << 62, 1 << 62, 1<<62 - 1}, least, greatest},
	}
	for _, c := range cases {
		l := row(k, c.l...)
		if x, ok := Low(l, k); x != c.low || !ok {
			t.Errorf("Low of %d is %d, %t; want %d", c.l, x, ok, c.low)
		}
		if x, ok := High(l, k); x != c.high || !ok {
			t.Errorf("High of %d is %d, %t; want %d", c.l, x, ok, c.high)
		}
	}
}

func TestLowAndHighBeyond64Bits(t *testing.T) {
	k := out(2)
	// What is beyond 64 bits on one side plays no part on the other one, and isn't brought back by it.
	ups := [][]int64{{greatest, 1}, {1, greatest}, {1 << 62, 1 << 62}, {greatest, greatest, 2}, {greatest, greatest, 7}, {greatest, 1, -1, -1}}
	for _, l := range ups {
		if x, ok := High(row(k, l...), k); x != 0 || ok {
			t.Errorf("High of %d is %d, %t", l, x, ok)
		}
		parts(t, "much above 0", row(k, l...), k)
	}
	downs := [][]int64{{least, -1}, {-1, least}, {-1 << 62, -1 << 62, -1}, {least, least}, {least, least, -7}, {least, -1, 1, greatest}}
	for _, l := range downs {
		if x, ok := Low(row(k, l...), k); x != 0 || ok {
			t.Errorf("Low of %d is %d, %t", l, x, ok)
		}
		parts(t, "much below 0", row(k, l...), k)
	}
}

func TestLowAndHighAreOfOneKey(t *testing.T) {
	var l []api.Op
	for i, k := range around() {
		l = append(l, add(k, int64(i)+1), add(k, -2*int64(i)-1))
	}
	// Anything more on either side of this key would be beyond 64 bits; and it is itself.
	l = append(l, row(stock(2, 2), greatest, 1, least, -1)...)
	for i, k := range around() {
		if x, ok := Low(l, k); x != -2*int64(i)-1 || !ok {
			t.Errorf("Low of %v is %d, %t; want %d", k, x, ok, -2*i-1)
		}
		if x, ok := High(l, k); x != int64(i)+1 || !ok {
			t.Errorf("High of %v is %d, %t; want %d", k, x, ok, i+1)
		}
	}
	for _, k := range []api.Key{{Kind: 1, Sku: 2}, {Kind: 2, Sku: 2, Ware: 2}, {Kind: 1, Sku: 2, Ware: 3}, {Kind: 3}} {
		if x, ok := Low(l, k); x != 0 || !ok {
			t.Errorf("Low of %v, to which nothing is added, is %d, %t", k, x, ok)
		}
		if x, ok := High(l, k); x != 0 || !ok {
			t.Errorf("High of %v, to which nothing is added, is %d, %t", k, x, ok)
		}
	}
}

func TestLowAndHighGoByTheWords(t *testing.T) {
	for seed := range 2000 {
		l := mixed(seed, seed%23, append(deltas(), least))
		for _, k := range []api.Key{owed(3), stock(0, 1), stock(1, 0), held(0, 1), out(0), out(1)} {
			parts(t, "mixed additions", l, k)
		}
	}
}

func TestSame(t *testing.T) {
	some := []api.Op{add(owed(1), 1), add(stock(0, 2), -2), add(owed(1), 1), add(held(3, 1), greatest)}
	lists := [][]api.Op{
		nil,
		row(owed(1), 0),
		row(api.Key{}, 0),
		row(owed(1), 1),
		row(owed(1), -1),
		row(owed(1), 1, 1),
		some,
		some[:3],
		some[1:],
		append(slices.Clone(some), api.Op{}),
		{some[1], some[0], some[2], some[3]},
		{some[0], some[1], some[3], some[2]},
	}
	for i := range some {
		for _, o := range []api.Op{{Key: api.Key{Kind: 1}}, {Key: api.Key{Sku: 1}}, {Key: api.Key{Ware: 1}}, {Delta: 1}, {Delta: -1}, {Delta: 1 << 32}} {
			l := slices.Clone(some)
			l[i].Key.Kind += o.Key.Kind
			l[i].Key.Sku += o.Key.Sku
			l[i].Key.Ware += o.Key.Ware
			l[i].Delta -= o.Delta
			lists = append(lists, l)
		}
	}
	for i, a := range lists {
		for j, b := range lists {
			if is := Same(a, slices.Clone(b)); is != (i == j) {
				t.Errorf("Same(%v, %v) is %t", a, b, is)
			}
		}
	}
	if !Same(nil, []api.Op{}) || !Same([]api.Op{}, nil) || !Same(some[:0], nil) {
		t.Error("lists without an addition are not the same")
	}
}

// P11.4

func TestWhatIsAddedAndUndoneComesToNothing(t *testing.T) {
	for seed := range 2000 {
		l := mixed(seed, seed%31, deltas())
		back, ok := Neg(l)
		if !ok {
			t.Fatalf("%v is not undone", l)
		}
		net, ok := Net(slices.Concat(l, back))
		told(t, "added and undone", net, ok, nil, true)
		net, ok = Net(slices.Concat(back, l))
		told(t, "undone and added", net, ok, nil, true)
		// What undoes the last ones undoes them alone.
		for n := range l {
			net, ok = Net(slices.Concat(l, back[:n]))
			want, is := wantNet(l[:len(l)-n])
			told(t, "the last ones undone", net, ok, want, is)
		}
	}
}

func TestWhatIsUndoneTwiceIsAsItWas(t *testing.T) {
	for seed := range 2000 {
		l := mixed(seed, seed%31, deltas())
		back, ok := Neg(l)
		if !ok {
			t.Fatalf("%v is not undone", l)
		}
		again, ok := Neg(back)
		told(t, "undone twice", again, ok, l, true)
		if !Same(again, l) {
			t.Errorf("%v undone twice is not the same: %v", l, again)
		}
	}
}

// Rule 4: what is handed in and out

func TestListsThatAreHandedInAreLeftAlone(t *testing.T) {
	room := []api.Op{add(owed(0), 5), add(stock(0, 0), -2), add(owed(0), -5), add(out(0), 9), add(out(0), 7)}
	was := slices.Clone(room)
	l := room[:3]
	other := slices.Clone(l)
	Neg(l)
	Net(l)
	Low(l, owed(0))
	High(l, owed(0))
	Same(l, other)
	if !slices.Equal(room, was) || !slices.Equal(other, l) {
		t.Errorf("the list has become %v, %v", room, other)
	}
}

func TestListsThatAreHandedOutAreTheirOwn(t *testing.T) {
	for _, call := range []func([]api.Op) ([]api.Op, bool){Neg, Net} {
		l := []api.Op{add(stock(0, 0), 1), add(held(0, 0), 2), add(out(0), 3)}
		was := slices.Clone(l)
		a, _ := call(l)
		b, _ := call(l)
		want := slices.Clone(b)
		for i := range a[:cap(a)] {
			a[:cap(a)][i] = add(owed(9), 99)
		}
		if !slices.Equal(l, was) {
			t.Errorf("what was handed in changes with the answer: %v", l)
		}
		if !slices.Equal(b, want) {
			t.Errorf("another answer changes with the answer: %v", b)
		}
		for i := range l {
			l[i] = api.Op{}
		}
		if !slices.Equal(b, want) {
			t.Errorf("an answer changes with what was handed in: %v", b)
		}
	}
}
