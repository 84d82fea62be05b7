package root_test

import (
	"math/big"
	"testing"

	"isochrone/api"
	"isochrone/root"
)

func TestGCD(t *testing.T) {
	for _, c := range []struct{ a, b, want string }{
		{"", "", ""}, {"", "5", "1"}, {"", "2 4", "1/2 1"}, {"", "0 0 -3", "0 0 1"}, {"7", "1 2 3", "1"}, {"-1 0 1", "1 1", "1 1"}, {"-1 0 1", "1 -2 1", "-1 1"}, {"-1 0 1", "1 0 1", "1"}, {"0 2", "0 0 3", "0 1"}, {"1/2 1/3", "3/2 1", "3/2 1"}, {"-2 0 1", "-2 0 1", "-2 0 1"}, {"0 0 1", "0 -1 1", "0 1"},
	} {
		got, e := root.GCD(read(c.a), read(c.b))
		same(t, "GCD of "+c.a+" and "+c.b, got, e, read(c.want), api.OK)
		got, e = root.GCD(read(c.b), read(c.a))
		same(t, "GCD of "+c.b+" and "+c.a, got, e, read(c.want), api.OK)
	}
	s := source(5)
	for range 600 {
		p, q, common := s.product(s.upTo(2), 2), s.product(s.upTo(2), 3), s.product(s.upTo(2), s.upTo(3))
		if s.upTo(9) == 0 {
			common = coefs{s.long(300), s.long(300), s.long(300)}
		}
		p, q = p.times(common), q.times(common)
		got, e := root.GCD(p.list(), q.list())
		same(t, "GCD of "+briefList(p.list())+" and "+briefList(q.list()), got, e, p.gcd(q).list(), api.OK)
	}
}

// integers returns a polynomial of integers of so many binary digits.
func (s *source) integers(degree, digits int) coefs {
	p := make(coefs, degree+1)
	for i := range p {
		p[i] = new(big.Rat).SetInt(s.odd(digits))
		if s.upTo(1) == 1 {
			p[i].Neg(p[i])
		}
	}
	return p
}

// TestGCDOfLongNumbers has divisors that are known by construction.
func TestGCDOfLongNumbers(t *testing.T) {
	s := source(6)
	for _, c := range []struct{ degree, digits int }{{1, 3000}, {2, 6000}, {20, 3100}, {19, 64}, {39, 200}} {
		common := s.integers(c.degree, c.digits)
		common[c.degree] = whole(1)
		got, e := root.GCD(common.times(parse("1 1")).list(), common.times(parse("-2/3 1")).list())
		same(t, "GCD of long numbers", got, e, common.list(), api.OK)
	}
	a, b := s.integers(20, 3100), s.integers(20, 3100)
	got, e := root.GCD(a.times(b).list(), a.times(parse("1 1")).list())
	same(t, "GCD of longer numbers", got, e, a.monic().list(), api.OK)
	got, e = root.GCD(s.integers(40, maxBits).list(), s.integers(40, maxBits).list())
	same(t, "GCD of the longest numbers", got, e, read("1"), api.OK)
	// Modulo 2^61 - 1 and the next prime 2^61 - 31, these have roots in common.
	first, next := minus(power(61), whole(1)), minus(power(61), whole(31))
	for _, distance := range []*big.Rat{first, next, times(first, next), times(first, whole(-6))} {
		p := coefs{neg(distance), whole(1)}
		got, e = root.GCD(p.list(), read("0 1"))
		same(t, "GCD of roots that differ by a prime", got, e, read("1"), api.OK)
		got, e = root.GCD(p.times(parse("5 0 1")).list(), parse("0 1").times(parse("5 0 1")).list())
		same(t, "GCD of other roots that differ by a prime", got, e, read("5 0 1"), api.OK)
		// The last number vanishes modulo a prime.
		q := coefs{whole(3), distance}
		got, e = root.GCD(q.times(parse("1 1")).list(), q.times(parse("2 1")).list())
		same(t, "GCD with a prime as the last number", got, e, q.monic().list(), api.OK)
	}
}

func TestGCDLimit(t *testing.T) {
	for _, c := range []struct {
		digits int
		want   api.Errno
	}{{3199, api.OK}, {3200, api.ErrLimit}} {
		p := coefs{power(3200), power(-c.digits)}
		var want []api.Rat
		if c.want == api.OK {
			want = p.monic().list()
		}
		got, e := root.GCD(p.list(), nil)
		same(t, "GCD with zero", got, e, want, c.want)
		got, e = root.GCD(nil, p.list())
		same(t, "GCD of zero", got, e, want, c.want)
		got, e = root.GCD(p.list(), p.scaled(whole(3)).list())
		same(t, "GCD of multiples", got, e, want, c.want)
		got, e = root.SquareFree(p.list())
		same(t, "SquareFree", got, e, want, c.want)
	}
}

func TestSquareFree(t *testing.T) {
	for _, c := range []struct{ c, want string }{
		{"5", "1"}, {"-1/3", "1"}, {"2 4", "1/2 1"}, {"1 -2 1", "-1 1"}, {"0 0 0 7", "0 1"}, {"-1 0 1", "-1 0 1"}, {"1 0 2 0 1", "1 0 1"}, {"-1 1 1 -1", "-1 0 1"}, {"4 0 -4 0 1", "-2 0 1"},
	} {
		got, e := root.SquareFree(read(c.c))
		same(t, "SquareFree of "+c.c, got, e, read(c.want), api.OK)
	}
	got, e := root.SquareFree(nil)
	fails(t, "SquareFree of zero", got, e, api.ErrZero)
	s := source(7)
	for range 600 {
		p := s.product(s.upTo(4), s.upTo(4))
		if len(p) == 0 {
			continue
		}
		got, e := root.SquareFree(p.list())
		same(t, "SquareFree of "+briefList(p.list()), got, e, p.squareFree().list(), api.OK)
	}
	x := coefs{fraction("-1000003/7"), whole(1)}
	p := parse("1")
	for range 40 {
		p = p.times(x)
	}
	got, e = root.SquareFree(p.list())
	same(t, "SquareFree of a power 40", got, e, x.list(), api.OK)
	a := s.integers(20, 3100)
	got, e = root.SquareFree(a.times(a).list())
	same(t, "SquareFree of a long square", got, e, a.monic().list(), api.OK)
	free := s.integers(40, maxBits)
	free[40] = whole(1)
	got, e = root.SquareFree(free.list())
	same(t, "SquareFree of long numbers", got, e, free.list(), api.OK)
}
