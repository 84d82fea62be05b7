package poly_test

import (
	"math/big"
	"testing"

	"isochrone/api"
	"isochrone/poly"
)

// point makes a point of numbers.
func point(at []*big.Rat) []api.Rat {
	list := make([]api.Rat, len(at))
	for i, x := range at {
		list[i] = fromBigRat(x)
	}
	return list
}

func numbers(texts ...string) []api.Rat {
	list := make([]api.Rat, len(texts))
	for i, text := range texts {
		list[i] = number(text)
	}
	return list
}

func TestEval(t *testing.T) {
	for _, c := range []struct {
		p    string
		at   []api.Rat
		want string
	}{
		{"0", nil, "0"}, {"5/3", nil, "5/3"}, {"5/3", []api.Rat{}, "5/3"}, {"0", numbers("7", "-1/2"), "0"}, {"-4", numbers("7", "-1/2"), "-4"}, {"1*x0", numbers("-1/2"), "-1/2"}, {"1*x1", numbers("7", "-1/2"), "-1/2"}, {"1*x0^2", numbers("-1/2"), "1/4"}, {"1*x0^3 + 1", numbers("-1/2"), "7/8"},
		{"1*x0^2 + -2", numbers("3/2"), "1/4"}, {"1*x0^2 + -9/4", numbers("-3/2"), "0"}, {"1*x0^40 + 1*x0", numbers("0"), "0"}, {"1*x0^40 + 1*x0 + 3", numbers("0"), "3"}, {"1*x0^40", numbers("-1"), "1"}, {"1*x0^2*x1 + 3*x1^3 + -1/2*x0", numbers("2/3", "-3/2"), "-89/8"},
		{"1*x0*x1*x2*x3*x4*x5*x6*x7", numbers("1/2", "2/3", "3/4", "4/5", "5/6", "6/7", "7/8", "8/9"), "1/9"}, {"1*x0 + 10*x1 + 100*x2 + 1000*x3 + 10000*x4 + 100000*x5 + 1000000*x6 + 10000000*x7", numbers("1", "2", "3", "4", "5", "6", "7", "8"), "87654321"},
		{"1*x0^20*x1^20", numbers("1024", "1/1024"), "1"}, {"1*x0^2 + 1*x1^2", numbers("3/5", "4/5"), "1"}, {"1*x1^40", numbers("0", "2"), "1099511627776"},
	} {
		got, e := poly.Eval(read(len(c.at), c.p), c.at)
		sameNumber(t, "the value of "+c.p, got, e, number(c.want), api.OK)
	}
}

func TestEvalErrors(t *testing.T) {
	for n := range 9 {
		for _, p := range []string{"0", "1"} {
			for _, count := range []int{0, 1, n - 1, n + 1, 8, 9, 100} {
				if count == n || count < 0 {
					continue
				}
				at := make([]api.Rat, count)
				for i := range at {
					at[i] = number("1/2")
				}
				got, e := poly.Eval(read(n, p), at)
				sameNumber(t, "a value at a point of other variables", got, e, api.Rat{}, api.ErrRange)
			}
		}
	}
	long := []api.Rat{fromBigRat(power(maxBits)), fromBigRat(power(-maxBits))}
	for _, x := range append(long, invalidNumbers()...) {
		for _, at := range [][]api.Rat{{x}, {x, number("1")}, {number("1"), x}, {number("1"), number("1"), x}} {
			for _, p := range []string{"0", "1", "1*x0 + 1*x1"} {
				got, e := poly.Eval(read(2, p), at)
				sameNumber(t, "a value at an invalid point", got, e, api.Rat{}, api.ErrForm)
			}
		}
	}
	for what, p := range invalid() {
		for _, at := range [][]api.Rat{nil, numbers("1"), numbers("1", "2")} {
			got, e := poly.Eval(p, at)
			sameNumber(t, "a value of "+what, got, e, api.Rat{}, api.ErrForm)
		}
	}
}

func TestEvalLimit(t *testing.T) {
	const most = 32 * api.MaxWords
	// The 20th power of this has 127981 binary digits.
	x := power(maxBits - 1)
	rest := most - 1 - 20*(maxBits-1)
	for _, c := range []struct {
		what string
		p    table
		x    *big.Rat
		e    api.Errno
	}{
		{"4096 words", monomial(power(rest), 20), x, api.OK}, {"4097 words", monomial(power(rest+1), 20), x, api.ErrLimit}, {"4096 words less 1", monomial(power(rest), 20).plus(parse("-1")), x, api.OK}, {"4097 words less 1", monomial(power(rest+1), 20).plus(parse("-1")), x, api.OK}, {"far more words", monomial(power(0), 40), x, api.ErrLimit},
		{"4096 words in Den", monomial(power(-rest), 20), new(big.Rat).Inv(x), api.OK}, {"4097 words in Den", monomial(power(-rest-1), 20), new(big.Rat).Inv(x), api.ErrLimit}, {"far more words in Den", monomial(power(0), 40), new(big.Rat).Inv(x), api.ErrLimit}, {"negative", monomial(new(big.Rat).Neg(power(rest+1)), 20), x, api.ErrLimit},
	} {
		want := api.Rat{}
		if c.e == api.OK {
			want = fromBigRat(c.p.eval([]*big.Rat{c.x}))
		}
		got, e := poly.Eval(c.p.poly(1), point([]*big.Rat{c.x}))
		sameNumber(t, "a value of "+c.what, got, e, want, c.e)
	}
}

// chain returns a polynomial in one variable with 41 terms whose coefficients, which are long, have the given sum: from either end, the sum of the first 21 of them has more than MaxWords words.
func chain(s *source, sum *big.Rat) table {
	p := monomial(sum, 20)
	for k := range 20 {
		c := s.long(200)
		p.add(key{k}, c)
		p.add(key{40 - k}, new(big.Rat).Neg(c))
	}
	return p
}

// TestNumbersOnTheWayOfEval has values within the limit, though parts of them are far above it.
func TestNumbersOnTheWayOfEval(t *testing.T) {
	s := source(4)
	x, y := s.long(200), s.long(200)
	inverse := new(big.Rat).Inv(x)
	half := big.NewRat(1, 2)
	for _, c := range []struct {
		what string
		p    table
		at   []*big.Rat
		want *big.Rat
	}{
		{"opposite powers", parse("1*x0^40 + -1*x1^40"), []*big.Rat{x, x}, new(big.Rat)}, {"opposite powers and a rest", parse("1*x0^40 + -1*x1^40 + 1/2*x1^0"), []*big.Rat{x, x}, half}, {"inverse powers", parse("1/2*x0^20*x1^20"), []*big.Rat{x, inverse}, half}, {"opposite products", parse("1*x0^20*x1^20 + -1*x2^20*x3^20"), []*big.Rat{x, y, y, x}, new(big.Rat)},
		{"a sum of long numbers", chain(&s, y), []*big.Rat{big.NewRat(1, 1)}, y}, {"a sum of long numbers with signs", chain(&s, y), []*big.Rat{big.NewRat(-1, 1)}, y}, {"all powers and their opposites", parse("1*x0^40 + 2*x0^39 + 3*x0^20*x1^20 + -3*x0^19*x1^21 + -1*x0*x1^39 + -2*x1^39"), []*big.Rat{x, x}, new(big.Rat)},
	} {
		got, e := poly.Eval(c.p.poly(len(c.at)), point(c.at))
		sameNumber(t, "the value with "+c.what, got, e, fromBigRat(c.want), api.OK)
	}
	got, e := poly.Eval(chain(&s, y).poly(1), numbers("2"))
	sameNumber(t, "a sum of long numbers that do not cancel out", got, e, api.Rat{}, api.ErrLimit)
}

func TestEvalAgainstTables(t *testing.T) {
	s := source(5)
	for round := range 600 {
		n := round % 9
		p := s.sparse(n, s.upTo(14), 40/max(n, 1))
		at := make([]*big.Rat, n)
		for i := range at {
			at[i] = s.fraction()
		}
		got, e := poly.Eval(p.poly(n), point(at))
		sameNumber(t, "the value of "+brief(p.poly(n)), got, e, fromBigRat(p.eval(at)), api.OK)
	}
	for range 5 {
		p := s.sparse(2, 9, 20)
		at := []*big.Rat{s.long(3), s.long(4)}
		got, e := poly.Eval(p.poly(2), point(at))
		sameNumber(t, "the value of "+brief(p.poly(2))+" at long numbers", got, e, fromBigRat(p.eval(at)), api.OK)
	}
}
