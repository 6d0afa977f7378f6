package key

import (
	"cmp"
	"fmt"
	"math"
	"slices"
	"strings"
	"testing"

	"pledge/api"
)

// allowed are the pairs of numbers of which there are keys.
func allowed() [][2]int {
	var l [][2]int
	for skus := 1; skus <= 4; skus++ {
		for wares := 1; wares <= 4; wares++ {
			l = append(l, [2]int{skus, wares})
		}
	}
	return l
}

// refused are pairs of numbers of which there are no keys: each of the two is wrong by itself, and both at once. Some would be right ones in a byte.
func refused() [][2]int {
	var l [][2]int
	wrong := []int{math.MinInt, -1 << 32, -256, -255, -4, -1, 0, 5, 6, 8, 16, 255, 256, 257, 258, 1<<32 + 1, math.MaxInt}
	for _, x := range wrong {
		for good := 1; good <= 4; good++ {
			l = append(l, [2]int{x, good}, [2]int{good, x})
		}
		for _, y := range wrong {
			l = append(l, [2]int{x, y})
		}
	}
	return l
}

// told are all keys of these numbers, in their order, as the chapter's words tell them.
func told(skus, wares int) []api.Key {
	var l []api.Key
	for _, kind := range []uint8{1, 2} {
		for sku := range skus {
			for ware := range wares {
				l = append(l, api.Key{Kind: kind, Sku: uint8(sku), Ware: uint8(ware)})
			}
		}
	}
	for _, kind := range []uint8{3, 4} {
		for sku := range skus {
			l = append(l, api.Key{Kind: kind, Sku: uint8(sku)})
		}
	}
	return l
}

// near are keys of each kind there is, and of those next to them, with articles and warehouses next to the edges, rising.
func near() []api.Key {
	var l []api.Key
	part := []uint8{0, 1, 2, 3, 4, 5, 9, 10, 127, 128, 254, 255}
	for _, kind := range part {
		for _, sku := range part {
			for _, ware := range part {
				l = append(l, api.Key{Kind: kind, Sku: sku, Ware: ware})
			}
		}
	}
	return l
}

// P4.1

func TestGood(t *testing.T) {
	for _, n := range allowed() {
		want := told(n[0], n[1])
		for _, k := range near() {
			if is := Good(n[0], n[1], k); is != slices.Contains(want, k) {
				t.Errorf("Good(%d, %d, %v) is %v", n[0], n[1], k, is)
			}
		}
	}
}

func TestGoodOfEachByte(t *testing.T) {
	want := told(4, 4)
	for kind := range 256 {
		for sku := range 256 {
			for ware := range 256 {
				k := api.Key{Kind: uint8(kind), Sku: uint8(sku), Ware: uint8(ware)}
				listed := kind <= 4 && sku < 4 && ware < 4 && slices.Contains(want, k)
				if is := Good(4, 4, k); is != listed {
					t.Fatalf("Good(4, 4, %v) is %v", k, is)
				}
			}
		}
	}
}

func TestGoodOfAnArticleAlone(t *testing.T) {
	for _, kind := range []uint8{api.KOut, api.KOwed} {
		if !Good(4, 4, api.Key{Kind: kind, Sku: 3}) {
			t.Errorf("no key of kind %d and article 3", kind)
		}
		for ware := 1; ware < 256; ware++ {
			if k := (api.Key{Kind: kind, Sku: 3, Ware: uint8(ware)}); Good(4, 4, k) {
				t.Errorf("%v is good", k)
			}
		}
	}
}

func TestNoKeysOfOtherNumbers(t *testing.T) {
	for _, n := range refused() {
		if c := Count(n[0], n[1]); c != 0 {
			t.Errorf("Count(%d, %d) is %d", n[0], n[1], c)
		}
		if l := All(n[0], n[1]); len(l) != 0 {
			t.Errorf("All(%d, %d) is %v", n[0], n[1], l)
		}
		for _, k := range near() {
			if Good(n[0], n[1], k) {
				t.Fatalf("Good(%d, %d, %v)", n[0], n[1], k)
			}
			if at, ok := Place(n[0], n[1], k); at != 0 || ok {
				t.Fatalf("Place(%d, %d, %v) is %d, %v", n[0], n[1], k, at, ok)
			}
		}
	}
}

func TestCount(t *testing.T) {
	want := [4][4]int{{4, 6, 8, 10}, {8, 12, 16, 20}, {12, 18, 24, 30}, {16, 24, 32, 40}}
	for _, n := range allowed() {
		if c := Count(n[0], n[1]); c != want[n[0]-1][n[1]-1] {
			t.Errorf("Count(%d, %d) is %d; want %d", n[0], n[1], c, want[n[0]-1][n[1]-1])
		}
	}
}

// P4.2

func TestCompare(t *testing.T) {
	l := near()
	for i, a := range l {
		for j, b := range l {
			if c := Compare(a, b); c != cmp.Compare(i, j) {
				t.Fatalf("Compare(%v, %v) is %d; want %d", a, b, c, cmp.Compare(i, j))
			}
		}
	}
}

func TestCompareGoesByKindThenSkuThenWare(t *testing.T) {
	cases := []struct {
		a, b api.Key
		want int
	}{
		{api.Key{}, api.Key{}, 0},
		{api.Key{Kind: 2, Sku: 1, Ware: 3}, api.Key{Kind: 2, Sku: 1, Ware: 3}, 0},
		{api.Key{Kind: 1, Sku: 255, Ware: 255}, api.Key{Kind: 2}, -1},
		{api.Key{Kind: 2, Sku: 0, Ware: 255}, api.Key{Kind: 2, Sku: 1}, -1},
		{api.Key{Kind: 2, Sku: 1, Ware: 0}, api.Key{Kind: 2, Sku: 1, Ware: 255}, -1},
		{api.Key{Kind: 3, Sku: 1, Ware: 0}, api.Key{Kind: 3, Sku: 1, Ware: 1}, -1},
		{api.Key{Kind: 255}, api.Key{Kind: 4, Sku: 255, Ware: 255}, 1},
		{api.Key{Sku: 255}, api.Key{}, 1},
		{api.Key{Ware: 128}, api.Key{Ware: 127}, 1},
	}
	for _, c := range cases {
		if is := Compare(c.a, c.b); is != c.want {
			t.Errorf("Compare(%v, %v) is %d; want %d", c.a, c.b, is, c.want)
		}
		if is := Compare(c.b, c.a); is != -c.want {
			t.Errorf("Compare(%v, %v) is %d; want %d", c.b, c.a, is, -c.want)
		}
	}
}

func TestAll(t *testing.T) {
	small := []api.Key{{Kind: 1}, {Kind: 2}, {Kind: 3}, {Kind: 4}}
	if l := All(1, 1); !slices.Equal(l, small) {
		t.Errorf("All(1, 1) is %v", l)
	}
	wide := []api.Key{
		{Kind: 1}, {Kind: 1, Ware: 1}, {Kind: 1, Ware: 2}, {Kind: 1, Sku: 1}, {Kind: 1, Sku: 1, Ware: 1}, {Kind: 1, Sku: 1, Ware: 2},
		{Kind: 2}, {Kind: 2, Ware: 1}, {Kind: 2, Ware: 2}, {Kind: 2, Sku: 1}, {Kind: 2, Sku: 1, Ware: 1}, {Kind: 2, Sku: 1, Ware: 2},
		{Kind: 3}, {Kind: 3, Sku: 1}, {Kind: 4}, {Kind: 4, Sku: 1},
	}
	if l := All(2, 3); !slices.Equal(l, wide) {
		t.Errorf("All(2, 3) is %v", l)
	}
	for _, n := range allowed() {
		l := All(n[0], n[1])
		if !slices.Equal(l, told(n[0], n[1])) {
			t.Errorf("All(%d, %d) is %v", n[0], n[1], l)
		}
		if len(l) != Count(n[0], n[1]) {
			t.Errorf("All(%d, %d) has %d keys; Count is %d", n[0], n[1], len(l), Count(n[0], n[1]))
		}
		for i := 1; i < len(l); i++ {
			if Compare(l[i-1], l[i]) != -1 {
				t.Errorf("All(%d, %d) has %v ahead of %v", n[0], n[1], l[i-1], l[i])
			}
		}
	}
}

func TestAllIsAnew(t *testing.T) {
	l := All(3, 2)
	clear(l)
	if l := All(3, 2); !slices.Equal(l, told(3, 2)) {
		t.Errorf("the second time All(3, 2) is %v", l)
	}
}

func TestPlace(t *testing.T) {
	for _, n := range allowed() {
		want := told(n[0], n[1])
		for _, k := range near() {
			at := slices.Index(want, k)
			if is, ok := Place(n[0], n[1], k); is != max(at, 0) || ok != (at >= 0) {
				t.Errorf("Place(%d, %d, %v) is %d, %v; want %d", n[0], n[1], k, is, ok, at)
			}
		}
	}
	if at, ok := Place(4, 4, api.Key{Kind: 4, Sku: 3}); at != 39 || !ok {
		t.Errorf("the last place is %d, %v", at, ok)
	}
	if at, ok := Place(4, 4, api.Key{Kind: 1}); at != 0 || !ok {
		t.Errorf("the first place is %d, %v", at, ok)
	}
}

// P4.3

func TestSet(t *testing.T) {
	a, b, c := api.Key{Kind: 1, Sku: 2}, api.Key{Kind: 2, Sku: 1, Ware: 3}, api.Key{Kind: 4}
	cases := [][2][]api.Key{
		{{}, {}},
		{{b}, {b}},
		{{{}}, {{}}},
		{{a, b, c}, {a, b, c}},
		{{c, b, a}, {a, b, c}},
		{{b, b, b}, {b}},
		{{c, a, c, b, a, c}, {a, b, c}},
		{{a, a, b, b, c, c}, {a, b, c}},
	}
	for _, x := range cases {
		if is := Set(x[0]...); !slices.Equal(is, x[1]) {
			t.Errorf("Set of %v is %v", x[0], is)
		}
	}
	if l := Set(); len(l) != 0 {
		t.Errorf("Set of none is %v", l)
	}
}

func TestSetOfWhicheverKeys(t *testing.T) {
	// Keys that are of no field are keys as well, and each part tells them apart.
	l := near()
	var mixed []api.Key
	for i := range l {
		k := l[i*997%len(l)]
		mixed = append(mixed, k, l[len(l)-1-i], k)
	}
	was := slices.Clone(mixed)
	if is := Set(mixed...); !slices.Equal(is, l) {
		t.Errorf("%d keys, each three times, are %d", len(l), len(is))
	}
	if !slices.Equal(mixed, was) {
		t.Error("what was handed in has changed")
	}
	if is := Set(api.Key{Kind: 3, Ware: 1}, api.Key{Kind: 3}); !slices.Equal(is, []api.Key{{Kind: 3}, {Kind: 3, Ware: 1}}) {
		t.Errorf("out 0, with a warehouse and without: %v", is)
	}
}

func TestSetIsAnew(t *testing.T) {
	l := told(2, 2)
	set := Set(l...)
	clear(set)
	if !slices.Equal(l, told(2, 2)) {
		t.Error("what was handed in has changed with the answer")
	}
	set = Set(l...)
	clear(l)
	if !slices.Equal(set, told(2, 2)) {
		t.Error("the answer has changed with what was handed in")
	}
}

// P4.4

// names are the kinds' names, by their numbers.
var names = map[uint8]string{1: "stock", 2: "held", 3: "out", 4: "owed"}

// texts are all texts of keys, with their keys.
func texts() map[string]api.Key {
	m := map[string]api.Key{}
	for sku := range 256 {
		for ware := range 256 {
			for _, kind := range []uint8{1, 2} {
				m[fmt.Sprintf("%s %d %d", names[kind], sku, ware)] = api.Key{Kind: kind, Sku: uint8(sku), Ware: uint8(ware)}
			}
		}
		for _, kind := range []uint8{3, 4} {
			m[fmt.Sprintf("%s %d", names[kind], sku)] = api.Key{Kind: kind, Sku: uint8(sku)}
		}
	}
	return m
}

// parsed asks that a text tells just what stands in m.
func parsed(t *testing.T, m map[string]api.Key, s string) {
	t.Helper()
	want, there := m[s]
	if k, ok := Parse(s); ok != there || k != want {
		t.Errorf("Parse(%q) is %v, %v; want %v, %v", s, k, ok, want, there)
	}
}

func TestText(t *testing.T) {
	cases := []struct {
		k    api.Key
		text string
	}{
		{api.Key{Kind: api.KStock}, "stock 0 0"},
		{api.Key{Kind: api.KHeld, Sku: 2, Ware: 1}, "held 2 1"},
		{api.Key{Kind: api.KOut, Sku: 10}, "out 10"},
		{api.Key{Kind: api.KOwed, Sku: 3}, "owed 3"},
		{api.Key{Kind: api.KOut, Sku: 1, Ware: 2}, "out 1"},
		{api.Key{Kind: api.KOwed, Ware: 255}, "owed 0"},
		{api.Key{Kind: api.KStock, Sku: 255, Ware: 100}, "stock 255 100"},
		{api.Key{}, ""},
		{api.Key{Kind: 5, Sku: 1, Ware: 1}, ""},
	}
	for _, c := range cases {
		if s := Text(c.k); s != c.text {
			t.Errorf("Text(%v) is %q; want %q", c.k, s, c.text)
		}
	}
}

func TestTextOfNoKind(t *testing.T) {
	for kind := range 256 {
		if kind >= 1 && kind <= 4 {
			continue
		}
		for _, sku := range []uint8{0, 1, 255} {
			if s := Text(api.Key{Kind: uint8(kind), Sku: sku, Ware: sku}); s != "" {
				t.Errorf("kind %d has the text %q", kind, s)
			}
		}
	}
}

func TestTextAndParseOfEachKey(t *testing.T) {
	for s, k := range texts() {
		if is := Text(k); is != s {
			t.Fatalf("Text(%v) is %q; want %q", k, is, s)
		}
		if is, ok := Parse(s); is != k || !ok {
			t.Fatalf("Parse(%q) is %v, %v; want %v", s, is, ok, k)
		}
	}
}

func TestParseOfOutAndOwedHasNoWarehouse(t *testing.T) {
	for _, kind := range []uint8{api.KOut, api.KOwed} {
		k := api.Key{Kind: kind, Sku: 7, Ware: 9}
		if is, ok := Parse(Text(k)); !ok || is != (api.Key{Kind: kind, Sku: 7}) {
			t.Errorf("the text of %v tells %v, %v", k, is, ok)
		}
	}
}

func TestParseOfOtherTexts(t *testing.T) {
	l := []string{
		"", " ", "  ", "\n", "0", "stock", "held", "out", "owed", "stock ", "out ", "owed 1 0", "out 1 1", "out 1 ", "stock 1", "held 1", "stock 1 ",
		"stock  1", "stock 1  2", " stock 1 2", "stock 1 2 ", "stock 1 2 3", "stock\t1 2", "stock 1\t2", "stock 1 2\n", "out\u00a01", "out 1\x00",
		"stock 01 2", "stock 1 02", "stock 00 0", "out 00", "out 000001", "stock +1 2", "stock 1 +2", "stock -1 2", "stock 1 -0", "out -0", "out +0", "owed 1_0",
		"stock 256 0", "stock 0 256", "out 256", "owed 257", "out 300", "out 999", "out 4294967297", "owed 18446744073709551617", "out 1e1", "out 0x1", "out 1.0", "out ١",
		"Stock 1 2", "STOCK 1 2", "OUT 1", "stocks 1 2", "stoc 1 2", "sold 1", "in 1", "hold 1 2", "held1 2", "out1", "1 2", "1 out", "none 0", "0 0 0", "outowed 1", "\xff 1", "out \xff",
	}
	for _, s := range l {
		if k, ok := Parse(s); ok || k != (api.Key{}) {
			t.Errorf("Parse(%q) is %v, %v", s, k, ok)
		}
	}
}

func TestParseOfLongTexts(t *testing.T) {
	for _, part := range []string{" ", "0", "1", "out 1", "stock 1 2 ", "\x00"} {
		long := strings.Repeat(part, 100000)
		for _, s := range []string{long, "out " + long, "stock 1 " + long, "stock " + long + " 1", "owed 1" + long} {
			if k, ok := Parse(s); ok || k != (api.Key{}) {
				t.Errorf("Parse of %d bytes is %v, %v", len(s), k, ok)
			}
		}
	}
}

func TestParseNextToTexts(t *testing.T) {
	m := texts()
	for _, s := range []string{"stock 0 0", "stock 255 10", "held 2 1", "held 199 255", "out 0", "out 25", "owed 1", "owed 100"} {
		for i := range len(s) + 1 {
			parsed(t, m, s[:i])
			parsed(t, m, s[i:])
			for c := range 256 {
				parsed(t, m, s[:i]+string([]byte{byte(c)})+s[i:])
				if i < len(s) {
					parsed(t, m, s[:i]+string([]byte{byte(c)})+s[i+1:])
				}
			}
			if i < len(s) {
				parsed(t, m, s[:i]+s[i+1:])
			}
		}
	}
}
