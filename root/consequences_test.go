package root_test

import (
	"testing"

	"isochrone/api"
	"isochrone/rat"
	"isochrone/root"
)

// TestIsolateAndCount: the number of roots is that of Count over (-B, B], and the roots are in ascending order.
func TestIsolateAndCount(t *testing.T) {
	s := source(31)
	for range 300 {
		p := s.product(s.upTo(5), s.upTo(6))
		if len(p) == 0 {
			continue
		}
		list := must[[]api.Root](t)(root.Isolate(p.list()))
		free := must[[]api.Rat](t)(root.SquareFree(p.list()))
		bound := must[api.Rat](t)(root.Bound(free))
		low := must[api.Rat](t)(rat.Neg(bound))
		for _, c := range [][]api.Rat{p.list(), free} {
			count, e := root.Count(c, low, bound)
			sameInt(t, "Count", count, e, len(list), api.OK)
		}
		for i, r := range list {
			got, e := root.Sign(p.list(), r)
			sameInt(t, "Sign at a root", got, e, 0, api.OK)
			if i > 0 {
				got, e = root.Cmp(list[i-1], r)
				sameInt(t, "Cmp of neighbours", got, e, -1, api.OK)
			}
		}
	}
}

// TestHalveKeepsTheNumber halves often, until the midpoint is the number or the interval is short.
func TestHalveKeepsTheNumber(t *testing.T) {
	s := source(32)
	for _, r := range append(s.someRoots(t, 30), rootOf("0 -2 0 1", "0", "2"), rootOf("-1 2", "0", "1")) {
		if !root.ValidRoot(r) {
			continue
		}
		half := r
		for range 40 {
			before := half
			half = must[api.Root](t)(root.Halve(half))
			if !root.ValidRoot(half) {
				t.Errorf("the half %s is not valid", briefRoot(half))
			}
			width, last := minus(toBigRat(half.Hi), toBigRat(half.Lo)), minus(toBigRat(before.Hi), toBigRat(before.Lo))
			if width.Sign() != 0 && times(width, whole(2)).Cmp(last) != 0 {
				t.Errorf("Halve of %s is %s", briefRoot(before), briefRoot(half))
			}
		}
		got, e := root.Cmp(r, half)
		sameInt(t, "Cmp of a number and itself, often halved", got, e, 0, api.OK)
	}
}

// TestSignAndGCD: the sign is 0 exactly if the greatest common divisor has a root there; and it is multiplicative.
func TestSignAndGCD(t *testing.T) {
	s := source(33)
	for _, r := range s.someRoots(t, 150) {
		a, b := s.product(1, 2), s.product(1, 1)
		if s.upTo(2) == 0 {
			a = a.times(roots("1/2")).times(parse("-2 0 1"))
		}
		if s.upTo(3) == 0 {
			b = b.times(fromList(r.Poly))
		}
		signA, signB := must[int](t)(root.Sign(a.list(), r)), must[int](t)(root.Sign(b.list(), r))
		got, e := root.Sign(must[[]api.Rat](t)(root.Mul(a.list(), b.list())), r)
		sameInt(t, "Sign of a product", got, e, signA*signB, api.OK)
		common := must[[]api.Rat](t)(root.GCD(a.list(), r.Poly))
		inGCD := must[int](t)(root.Sign(common, r))
		if (signA == 0) != (inGCD == 0) {
			t.Errorf("Sign of %s at %s is %d, and that of the greatest common divisor %d", briefList(a.list()), briefRoot(r), signA, inGCD)
		}
	}
}

// TestOrder: Cmp is a total order, and agrees with rat.Cmp.
func TestOrder(t *testing.T) {
	s := source(34)
	list := s.someRoots(t, 16)
	order := func(a, b api.Root) int { return must[int](t)(root.Cmp(a, b)) }
	for _, a := range list {
		if order(a, a) != 0 {
			t.Errorf("%s is not equal to itself", briefRoot(a))
		}
		for _, b := range list {
			if order(a, b) != -order(b, a) {
				t.Errorf("Cmp of %s and %s is not antisymmetric", briefRoot(a), briefRoot(b))
			}
			for _, c := range list {
				if order(a, b) <= 0 && order(b, c) <= 0 && order(a, c) > min(order(a, b), order(b, c)) {
					t.Errorf("Cmp of %s, %s and %s is not transitive", briefRoot(a), briefRoot(b), briefRoot(c))
				}
			}
		}
	}
	for range 200 {
		x, y := fromBigRat(s.fraction()), fromBigRat(s.fraction())
		a, b := must[api.Root](t)(root.Rational(x)), must[api.Root](t)(root.Rational(y))
		got, e := root.Cmp(a, b)
		sameInt(t, "Cmp of rational numbers", got, e, must[int](t)(rat.Cmp(x, y)), api.OK)
		wide := a
		wide.Lo, wide.Hi = number("-20"), number("21")
		got, e = root.Cmp(wide, b)
		sameInt(t, "Cmp of rational numbers in an interval", got, e, must[int](t)(rat.Cmp(x, y)), api.OK)
		value := must[api.Rat](t)(root.Eval(read("-1 2 3"), x))
		got, e = root.Sign(read("-1 2 3"), wide)
		sameInt(t, "Sign at a rational number", got, e, must[int](t)(rat.Sign(value)), api.OK)
	}
}

// TestRingLaws: Eval is a homomorphism, a = q*b + r, and Deriv obeys the product rule.
func TestRingLaws(t *testing.T) {
	s := source(35)
	ok := must[[]api.Rat](t)
	for range 200 {
		a, b, x := s.coefs(s.upTo(7)).list(), s.coefs(s.upTo(5)).list(), fromBigRat(s.fraction())
		sum, product := ok(root.Add(a, b)), ok(root.Mul(a, b))
		atA, atB := must[api.Rat](t)(root.Eval(a, x)), must[api.Rat](t)(root.Eval(b, x))
		got, e := root.Eval(sum, x)
		sameNumber(t, "the value of a sum", got, e, must[api.Rat](t)(rat.Add(atA, atB)), api.OK)
		got, e = root.Eval(product, x)
		sameNumber(t, "the value of a product", got, e, must[api.Rat](t)(rat.Mul(atA, atB)), api.OK)
		left, right := ok(root.Mul(ok(root.Deriv(a)), b)), ok(root.Mul(a, ok(root.Deriv(b))))
		list, e := root.Deriv(product)
		same(t, "the derivative of a product", list, e, ok(root.Add(left, right)), api.OK)
		if len(b) == 0 {
			continue
		}
		q, r, e := root.DivMod(a, b)
		if e != api.OK || len(r) >= len(b) {
			t.Errorf("the remainder has %d numbers and error %d", len(r), e)
		}
		list, e = root.Add(ok(root.Mul(q, b)), r)
		same(t, "q*b + r", list, e, a, api.OK)
	}
}
