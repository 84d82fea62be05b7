package nat_test

import (
	"math"
	"slices"
	"testing"

	"isochrone/api"
	"isochrone/nat"
)

func TestValid(t *testing.T) {
	for _, c := range []struct {
		a    []uint32
		want bool
	}{
		{nil, true}, {[]uint32{}, true}, {[]uint32{1}, true}, {[]uint32{0, 1}, true}, {ones(4096), true}, {power(131071), true},
		{[]uint32{0}, false}, {[]uint32{1, 0}, false}, {[]uint32{0, 0}, false}, {make([]uint32, 4096), false},
		{ones(4097), false}, {make([]uint32, 4097), false}, {power(131072), false},
	} {
		if got := nat.Valid(c.a); got != c.want {
			t.Errorf("Valid(%s) is %v", brief(c.a), got)
		}
	}
}

func TestFrom(t *testing.T) {
	for _, c := range []struct {
		n    uint64
		want []uint32
	}{
		{0, nil}, {1, []uint32{1}}, {math.MaxUint32, []uint32{math.MaxUint32}}, {1 << 32, []uint32{0, 1}},
		{math.MaxUint64, []uint32{math.MaxUint32, math.MaxUint32}}, {5<<32 | 7, []uint32{7, 5}},
	} {
		same(t, "From", nat.From(c.n), api.OK, c.want, api.OK)
	}
}

func TestCmp(t *testing.T) {
	for _, c := range []struct {
		a, b []uint32
		want int
	}{
		{nil, nil, 0}, {nil, []uint32{}, 0}, {nil, []uint32{1}, -1}, {[]uint32{1}, nil, 1},
		{[]uint32{2}, []uint32{3}, -1}, {[]uint32{9}, []uint32{0, 1}, -1}, {[]uint32{0, 2}, []uint32{9, 1}, 1},
		{[]uint32{1, 7}, []uint32{2, 7}, -1}, {[]uint32{3, 1, 7}, []uint32{2, 2, 7}, -1}, {[]uint32{5, 6, 7}, []uint32{5, 6, 7}, 0},
		{[]uint32{0x80000000}, []uint32{1}, 1}, {ones(4096), ones(4095), 1}, {ones(4096), ones(4096), 0},
	} {
		if got, e := nat.Cmp(c.a, c.b); got != c.want || e != api.OK {
			t.Errorf("Cmp(%s, %s) is %d, %d", brief(c.a), brief(c.b), got, e)
		}
	}
}

func TestBits(t *testing.T) {
	for _, c := range []struct {
		a    []uint32
		want int
	}{
		{nil, 0}, {[]uint32{1}, 1}, {[]uint32{2}, 2}, {[]uint32{3}, 2}, {[]uint32{4}, 3}, {[]uint32{255}, 8}, {[]uint32{0xffffffff}, 32},
		{[]uint32{0, 1}, 33}, {ones(2), 64}, {ones(4096), 131072}, {power(131071), 131072}, {power(1000), 1001},
	} {
		if got, e := nat.Bits(c.a); got != c.want || e != api.OK {
			t.Errorf("Bits(%s) is %d, %d", brief(c.a), got, e)
		}
	}
}

// call is a function of the package with its arguments filled in, for checks that all functions share.
type call struct {
	name string
	do   func(a, b []uint32) (results [][]uint32, e api.Errno)
}

func one(r []uint32, e api.Errno) ([][]uint32, api.Errno) {
	return [][]uint32{r}, e
}

// number shows a result of another type as a magnitude.
func number(n int, e api.Errno) ([][]uint32, api.Errno) {
	return [][]uint32{nat.From(uint64(n + 1))}, e
}

// binary are the functions of two magnitudes, unary those of one; the second argument is ignored.
func binary() []call {
	return []call{
		{"Cmp", func(a, b []uint32) ([][]uint32, api.Errno) { return number(nat.Cmp(a, b)) }},
		{"Add", func(a, b []uint32) ([][]uint32, api.Errno) { return one(nat.Add(a, b)) }},
		{"Sub", func(a, b []uint32) ([][]uint32, api.Errno) { return one(nat.Sub(a, b)) }},
		{"Mul", func(a, b []uint32) ([][]uint32, api.Errno) { return one(nat.Mul(a, b)) }},
		{"DivMod", func(a, b []uint32) ([][]uint32, api.Errno) {
			q, r, e := nat.DivMod(a, b)
			return [][]uint32{q, r}, e
		}},
		{"GCD", func(a, b []uint32) ([][]uint32, api.Errno) { return one(nat.GCD(a, b)) }},
	}
}

func unary() []call {
	pow := func(n int) func(a, b []uint32) ([][]uint32, api.Errno) {
		return func(a, b []uint32) ([][]uint32, api.Errno) { return one(nat.Pow(a, n)) }
	}
	shift := func(n int) func(a, b []uint32) ([][]uint32, api.Errno) {
		return func(a, b []uint32) ([][]uint32, api.Errno) { return one(nat.Shift(a, n)) }
	}
	return []call{
		{"Pow 0", pow(0)}, {"Pow 1", pow(1)}, {"Pow 3", pow(3)}, {"Pow -1", pow(-1)}, {"Pow max", pow(math.MaxInt)},
		{"Shift 0", shift(0)}, {"Shift 32", shift(32)}, {"Shift 5", shift(5)}, {"Shift -5", shift(-5)}, {"Shift -32", shift(-32)}, {"Shift 200001", shift(200001)},
		{"Bits", func(a, b []uint32) ([][]uint32, api.Errno) { return number(nat.Bits(a)) }},
		{"Root", func(a, b []uint32) ([][]uint32, api.Errno) { return one(nat.Root(a)) }},
		{"Text", func(a, b []uint32) ([][]uint32, api.Errno) {
			s, e := nat.Text(a)
			return number(len(s), e)
		}},
	}
}

// zeroResults holds for results of an error; number has added 1 to the others.
func zeroResults(results [][]uint32) bool {
	for _, r := range results {
		if len(r) != 0 && !slices.Equal(r, []uint32{1}) {
			return false
		}
	}
	return true
}

func TestErrFormComesFirst(t *testing.T) {
	bad := [][]uint32{{0}, {1, 0}, {0, 0, 0}, ones(4097), make([]uint32, 5000)}
	good := [][]uint32{nil, {1}, {0, 1}, ones(4096)}
	check := func(c call, a, b []uint32) {
		if results, e := c.do(a, b); e != api.ErrForm || !zeroResults(results) {
			t.Errorf("%s(%s, %s) is error %d", c.name, brief(a), brief(b), e)
		}
	}
	for _, x := range bad {
		for _, c := range unary() {
			check(c, x, nil)
		}
		for _, c := range binary() {
			for _, y := range good {
				check(c, x, y)
				check(c, y, x)
			}
			for _, y := range bad {
				check(c, x, y)
			}
		}
	}
}

// spare returns a copy of a with some words behind its end, which no function may read or change.
func spare(a []uint32) []uint32 {
	room := append(slices.Clone(a), 77, 78, 79, 80)
	return room[:len(a)]
}

// TestArgumentsAndResults checks rules R3 and R4: arguments keep their words and the words behind them, and a result may be changed without an effect on them, on other results or on later calls.
func TestArgumentsAndResults(t *testing.T) {
	args := [][]uint32{nil, {}, {1}, {6}, {0xffffffff}, {0, 1}, {4, 2}, {0, 0, 1}, {9, 9, 9}, ones(5), {1, 0, 0, 0, 8}}
	for _, c := range append(binary(), unary()...) {
		for _, x := range args {
			for _, y := range args {
				checkMemory(t, c, x, y)
			}
		}
	}
}

func checkMemory(t *testing.T, c call, x, y []uint32) {
	t.Helper()
	a, b := spare(x), spare(y)
	first, e := c.do(a, b)
	want := make([][]uint32, len(first))
	for i, r := range first {
		want[i] = slices.Clone(r)
	}
	for i, r := range first {
		if !slices.Equal(r, want[i]) {
			t.Errorf("%s: results share memory", c.name)
		}
		scribble(r)
	}
	for _, p := range [][2][]uint32{{a, x}, {b, y}} {
		if room := p[0][:cap(p[0])]; !slices.Equal(p[0], p[1]) || !slices.Equal(room[len(p[1]):len(p[1])+4], []uint32{77, 78, 79, 80}) {
			t.Errorf("%s(%s, %s) changes an argument", c.name, brief(x), brief(y))
		}
	}
	second, again := c.do(x, y)
	if e != again || !slices.EqualFunc(second, want, slices.Equal) {
		t.Errorf("%s(%s, %s) differs from call to call", c.name, brief(x), brief(y))
	}
}

// scribble overwrites a result and the memory behind it.
func scribble(r []uint32) {
	room := r[:cap(r)]
	for i := range room {
		room[i] = 0xdeadbeef
	}
}

func TestParseKeepsNothing(t *testing.T) {
	first := mustParse(t, "123456789012345678901234567890")
	want := slices.Clone(first)
	scribble(first)
	same(t, "Parse", mustParse(t, "123456789012345678901234567890"), api.OK, want, api.OK)
	scribble(nat.From(5))
	same(t, "From", nat.From(5), api.OK, []uint32{5}, api.OK)
}
