package rat_test

import (
	"math"
	"math/big"
	"slices"
	"testing"

	"isochrone/api"
	"isochrone/rat"
)

func TestValid(t *testing.T) {
	long := fromBig(power(131071, 0))
	for _, c := range []struct {
		a    api.Rat
		want bool
	}{
		{api.Rat{Den: []uint32{1}}, true}, {api.Rat{Num: []uint32{}, Den: []uint32{1}}, true}, {api.Rat{Num: []uint32{3}, Den: []uint32{1}}, true},
		{api.Rat{Neg: true, Num: []uint32{3}, Den: []uint32{4}}, true}, {api.Rat{Num: []uint32{0, 1}, Den: []uint32{3}}, true}, {api.Rat{Num: []uint32{1}, Den: []uint32{0, 1}}, true},
		{api.Rat{Num: ones(4096), Den: []uint32{1}}, true}, {api.Rat{Num: ones(4096), Den: long}, true}, {api.Rat{Num: long, Den: ones(4096)}, true},
		{api.Rat{}, false}, {api.Rat{Num: []uint32{1}}, false}, {api.Rat{Num: []uint32{1}, Den: []uint32{0}}, false}, {api.Rat{Num: []uint32{0}, Den: []uint32{1}}, false},
		{api.Rat{Neg: true, Den: []uint32{1}}, false}, {api.Rat{Den: []uint32{2}}, false}, {api.Rat{Den: ones(4096)}, false}, {api.Rat{Num: []uint32{1, 0}, Den: []uint32{3}}, false},
		{api.Rat{Num: []uint32{3}, Den: []uint32{1, 0}}, false}, {api.Rat{Num: []uint32{2}, Den: []uint32{4}}, false}, {api.Rat{Num: []uint32{3}, Den: []uint32{3}}, false},
		{api.Rat{Neg: true, Num: []uint32{6}, Den: []uint32{9}}, false}, {api.Rat{Num: ones(4096), Den: ones(2048)}, false}, {api.Rat{Num: long, Den: long}, false},
		{api.Rat{Num: ones(4097), Den: []uint32{1}}, false}, {api.Rat{Num: []uint32{1}, Den: ones(4097)}, false}, {api.Rat{Num: ones(4097), Den: ones(4097)}, false},
	} {
		if got := rat.Valid(c.a); got != c.want {
			t.Errorf("Valid(%s) is %v", brief(c.a), got)
		}
	}
}

func TestFrom(t *testing.T) {
	for _, n := range []int64{0, 1, -1, 7, -7, math.MaxUint32, -math.MaxUint32, 1 << 32, -1 << 32, math.MaxInt64, math.MinInt64, math.MinInt64 + 1} {
		same(t, "From", rat.From(n), api.OK, whole(big.NewInt(n)), api.OK)
	}
}

func TestMake(t *testing.T) {
	for _, c := range []struct {
		neg      bool
		num, den []uint32
		want     api.Rat
		e        api.Errno
	}{
		{false, []uint32{3}, []uint32{4}, number("3/4"), api.OK}, {true, []uint32{3}, []uint32{4}, number("-3/4"), api.OK}, {false, []uint32{6}, []uint32{4}, number("3/2"), api.OK},
		{true, []uint32{12}, []uint32{4}, number("-3"), api.OK}, {false, []uint32{4}, []uint32{12}, number("1/3"), api.OK}, {false, []uint32{0, 6}, []uint32{0, 4}, number("3/2"), api.OK},
		{false, nil, []uint32{1}, number("0"), api.OK}, {false, nil, []uint32{7}, number("0"), api.OK}, {true, nil, []uint32{1}, number("0"), api.OK}, {true, []uint32{}, ones(4096), number("0"), api.OK},
		{true, ones(4096), ones(4096), number("-1"), api.OK}, {false, ones(4096), ones(2048), whole(power(65536, 1)), api.OK}, {false, ones(2048), ones(4096), over(big.NewInt(1), power(65536, 1)), api.OK},
		{false, []uint32{1}, nil, api.Rat{}, api.ErrZero}, {false, nil, nil, api.Rat{}, api.ErrZero}, {true, ones(4096), []uint32{}, api.Rat{}, api.ErrZero},
		{false, []uint32{0}, []uint32{1}, api.Rat{}, api.ErrForm}, {false, []uint32{1}, []uint32{0}, api.Rat{}, api.ErrForm}, {false, []uint32{1, 0}, nil, api.Rat{}, api.ErrForm},
		{false, ones(4097), []uint32{1}, api.Rat{}, api.ErrForm}, {false, []uint32{1}, ones(4097), api.Rat{}, api.ErrForm}, {true, ones(4097), nil, api.Rat{}, api.ErrForm}, {true, nil, []uint32{0, 0}, api.Rat{}, api.ErrForm},
	} {
		got, e := rat.Make(c.neg, c.num, c.den)
		same(t, "Make("+brief(api.Rat{Neg: c.neg, Num: c.num, Den: c.den})+")", got, e, c.want, c.e)
	}
}

func TestMakeAgainstBig(t *testing.T) {
	s := source(3)
	for range 1000 {
		common := s.words(s.upTo(3))
		num := common.Mul(common, s.words(s.upTo(3)))
		den := new(big.Int).Mul(s.words(1+s.upTo(2)), s.words(1+s.upTo(2)))
		got, e := rat.Make(false, fromBig(num), fromBig(den))
		same(t, "Make", got, e, over(num, den), api.OK)
	}
}

func TestSign(t *testing.T) {
	for _, c := range []struct {
		a    api.Rat
		want int
	}{{number("0"), 0}, {number("5"), 1}, {number("-5"), -1}, {number("1/5"), 1}, {number("-1/5"), -1}, {over(power(131072, -1), power(131071, 0)), 1}} {
		if got, e := rat.Sign(c.a); got != c.want || e != api.OK {
			t.Errorf("Sign(%s) is %d, %d", brief(c.a), got, e)
		}
	}
}

func checkCmp(t *testing.T, a, b api.Rat, want int) {
	t.Helper()
	if got, e := rat.Cmp(a, b); got != want || e != api.OK {
		t.Errorf("Cmp(%s, %s) is %d, %d", brief(a), brief(b), got, e)
	}
	if got, e := rat.Cmp(b, a); got != -want || e != api.OK {
		t.Errorf("Cmp(%s, %s) is %d, %d", brief(b), brief(a), got, e)
	}
}

func TestCmp(t *testing.T) {
	for _, c := range []struct {
		a, b string
		want int
	}{
		{"0", "0", 0}, {"0", "1/9", -1}, {"0", "-1/9", 1}, {"-1", "1", -1}, {"-3", "-2", -1}, {"-1/2", "-1/3", -1}, {"1/2", "1/3", 1}, {"2/3", "3/4", -1}, {"3/4", "3/4", 0}, {"-3/4", "-3/4", 0},
		{"7", "20/3", 1}, {"-7", "-20/3", -1}, {"-100", "1/100", -1}, {"4294967296/4294967295", "4294967297/4294967296", 1}, {"18446744073709551615/18446744073709551616", "1", -1},
	} {
		checkCmp(t, number(c.a), number(c.b), c.want)
	}
}

// TestCmpLongest has numbers whose products with denominators have twice as many words as a number may have.
func TestCmpLongest(t *testing.T) {
	less := over(power(131072, -3), power(131072, -2))
	more := over(power(131072, -2), power(131072, -1))
	checkCmp(t, less, more, -1)
	checkCmp(t, negative(less), negative(more), 1)
	checkCmp(t, less, less, 0)
	checkCmp(t, negative(more), negative(more), 0)
	checkCmp(t, negative(more), less, -1)
	checkCmp(t, less, number("1"), -1)
	checkCmp(t, number("0"), less, -1)
	checkCmp(t, over(power(131072, -1), power(131072, -2)), over(power(131072, -2), power(131072, -3)), -1)
	checkCmp(t, whole(power(131072, -1)), whole(power(131072, -2)), 1)
	checkCmp(t, over(big.NewInt(1), power(131072, -1)), over(big.NewInt(1), power(131072, -2)), -1)
}

func TestCmpAgainstBig(t *testing.T) {
	s := source(4)
	for range 2000 {
		a, b := s.small(), s.number(3)
		checkCmp(t, fromBigRat(a), fromBigRat(b), a.Cmp(b))
		c := s.small()
		checkCmp(t, fromBigRat(a), fromBigRat(c), a.Cmp(c))
	}
}

// call is a function of the package with its other arguments filled in, for checks that all functions share.
type call struct {
	name string
	do   func(a, b api.Rat) (api.Rat, api.Errno)
}

// shown makes a number of a result of another type, and the zero value of a zero result with an error.
func shown(n int, e api.Errno) (api.Rat, api.Errno) {
	if e != api.OK && n == 0 {
		return api.Rat{}, e
	}
	return rat.From(int64(n)), e
}

// binaryCalls are the functions of two numbers, unaryCalls those of one, which ignore the second argument.
func binaryCalls() []call {
	return []call{
		{"Cmp", func(a, b api.Rat) (api.Rat, api.Errno) { return shown(rat.Cmp(a, b)) }},
		{"Add", rat.Add}, {"Sub", rat.Sub}, {"Mul", rat.Mul}, {"Div", rat.Div}, {"Mid", rat.Mid}, {"Simplest", rat.Simplest},
	}
}

func unaryCalls() []call {
	with := func(f func(a api.Rat, n int) (api.Rat, api.Errno), n int) func(a, b api.Rat) (api.Rat, api.Errno) {
		return func(a, b api.Rat) (api.Rat, api.Errno) { return f(a, n) }
	}
	alone := func(f func(a api.Rat) (api.Rat, api.Errno)) func(a, b api.Rat) (api.Rat, api.Errno) {
		return func(a, b api.Rat) (api.Rat, api.Errno) { return f(a) }
	}
	return []call{
		{"Sign", func(a, b api.Rat) (api.Rat, api.Errno) { return shown(rat.Sign(a)) }},
		{"Neg", alone(rat.Neg)}, {"Floor", alone(rat.Floor)},
		{"Pow 0", with(rat.Pow, 0)}, {"Pow 1", with(rat.Pow, 1)}, {"Pow 3", with(rat.Pow, 3)}, {"Pow -1", with(rat.Pow, -1)}, {"Pow 1001", with(rat.Pow, 1001)}, {"Pow -1001", with(rat.Pow, -1001)},
		{"Down 0", with(rat.Down, 0)}, {"Down 33", with(rat.Down, 33)}, {"Down -1", with(rat.Down, -1)}, {"Down 4001", with(rat.Down, 4001)},
		{"Up 0", with(rat.Up, 0)}, {"Up 33", with(rat.Up, 33)}, {"Up -1", with(rat.Up, -1)}, {"Up 4001", with(rat.Up, 4001)},
		{"Text", func(a, b api.Rat) (api.Rat, api.Errno) {
			s, e := rat.Text(a)
			return shown(len(s), e)
		}},
	}
}

// invalid returns numbers that are wrong in each of the ways there are; some look like zero, which has errors of its own.
func invalid() []api.Rat {
	return []api.Rat{
		{}, {Num: []uint32{1}}, {Den: []uint32{2}}, {Neg: true, Den: []uint32{1}}, {Num: []uint32{2}, Den: []uint32{4}}, {Num: []uint32{0}, Den: []uint32{1}},
		{Num: []uint32{1}, Den: []uint32{0}}, {Num: []uint32{1, 0}, Den: []uint32{1}}, {Num: ones(4097), Den: []uint32{1}}, {Num: []uint32{1}, Den: ones(4097)},
	}
}

func TestErrFormComesFirst(t *testing.T) {
	good := []api.Rat{number("0"), number("5"), number("-7/3"), whole(power(131072, -1))}
	check := func(c call, a, b api.Rat) {
		got, e := c.do(a, b)
		same(t, c.name+"("+brief(a)+", "+brief(b)+")", got, e, api.Rat{}, api.ErrForm)
	}
	for _, x := range invalid() {
		for _, c := range unaryCalls() {
			check(c, x, number("1"))
		}
		for _, c := range binaryCalls() {
			for _, y := range good {
				check(c, x, y)
				check(c, y, x)
			}
			for _, y := range invalid() {
				check(c, x, y)
			}
		}
	}
}

// spare returns a copy of a with some words behind its end, which no function may read or change.
func spare(a []uint32) []uint32 {
	room := append(slices.Clone(a), 77, 78, 79, 80)
	return room[:len(a)]
}

// untouched reports whether a, which is a copy made by spare, is as it was.
func untouched(a, original []uint32) bool {
	return slices.Equal(a, original) && slices.Equal(a[:len(a)+4][len(a):], []uint32{77, 78, 79, 80})
}

// scribble overwrites a list and the memory behind it.
func scribble(a []uint32) {
	room := a[:cap(a)]
	for i := range room {
		room[i] = 0xdeadbeef
	}
}

func clone(a api.Rat) api.Rat {
	return api.Rat{Neg: a.Neg, Num: slices.Clone(a.Num), Den: slices.Clone(a.Den)}
}

// TestArgumentsAndResults checks rules R3 and R4: arguments keep their words and the words behind them, and a result may be changed without an effect on them, on itself elsewhere or on later calls.
func TestArgumentsAndResults(t *testing.T) {
	var args []api.Rat
	for _, s := range []string{"0", "1", "-1", "2", "-7", "1/2", "-1/2", "22/7", "-355/113", "4294967296", "1/4294967296", "18446744073709551617/3", "-79228162514264337593543950335/4294967295"} {
		args = append(args, number(s))
	}
	for _, c := range append(binaryCalls(), unaryCalls()...) {
		for _, x := range args {
			for _, y := range args {
				checkMemory(t, c, x, y)
			}
		}
	}
}

func checkMemory(t *testing.T, c call, x, y api.Rat) {
	t.Helper()
	a := api.Rat{Neg: x.Neg, Num: spare(x.Num), Den: spare(x.Den)}
	b := api.Rat{Neg: y.Neg, Num: spare(y.Num), Den: spare(y.Den)}
	first, e := c.do(a, b)
	want := clone(first)
	scribble(first.Num)
	if !slices.Equal(first.Den, want.Den) {
		t.Errorf("%s(%s, %s): Num and Den share memory", c.name, brief(x), brief(y))
	}
	scribble(first.Den)
	if !untouched(a.Num, x.Num) || !untouched(a.Den, x.Den) || !untouched(b.Num, y.Num) || !untouched(b.Den, y.Den) {
		t.Errorf("%s(%s, %s) changes an argument or shares memory with it", c.name, brief(x), brief(y))
	}
	second, again := c.do(x, y)
	same(t, c.name+" once more", second, again, want, e)
}

func TestMakersKeepNothing(t *testing.T) {
	num, den := spare([]uint32{6}), spare([]uint32{0, 4})
	made, e := rat.Make(true, num, den)
	same(t, "Make", made, e, number("-6/17179869184"), api.OK)
	scribble(made.Num)
	scribble(made.Den)
	if !untouched(num, []uint32{6}) || !untouched(den, []uint32{0, 4}) {
		t.Error("Make changes an argument or shares memory with it")
	}
	for range 2 {
		parsed, e := rat.Parse("-12/8")
		same(t, "Parse", parsed, e, number("-3/2"), api.OK)
		scribble(parsed.Num)
		scribble(parsed.Den)
		five := rat.From(-5)
		same(t, "From", five, api.OK, number("-5"), api.OK)
		scribble(five.Num)
		scribble(five.Den)
	}
}
