package root

import (
	"testing"

	"isochrone/wide"
)

// integers returns a polynomial of integers.
func integers(coefs ...int) list {
	p := make(list, len(coefs))
	for i, c := range coefs {
		p[i] = wide.Int(c)
	}
	return p
}

func ratio(num, den int) wide.Num {
	return wide.Int(num).Quo(wide.Int(den))
}

func span(lo, hi wide.Num) interval {
	return intervalOf(lo, hi)
}

// some returns polynomials whose roots are simple, and which are no constants.
func some() []list {
	var all []list
	state := uint32(1)
	next := func(most int) int {
		state = state*1664525 + 1013904223
		return int(state>>16) % (most + 1)
	}
	for len(all) < 300 {
		p := make(list, 2+next(8))
		for i := range p {
			p[i] = wide.Int(next(20) - 10)
		}
		p = p.trimmed()
		if len(p) < 2 {
			continue
		}
		p, _ = p.primitive()
		if p.isSquareFree() {
			all = append(all, p)
		}
	}
	return all
}

// TestChainAndHalvings: Sturm's chain and the halvings count the same roots.
func TestChainAndHalvings(t *testing.T) {
	for k, p := range some() {
		c, short := sturm(p, muchWork)
		if !short {
			t.Fatal("a chain of short numbers is too long")
		}
		for lo := -3; lo < 3; lo++ {
			in := span(ratio(lo, 1+k%3), ratio(lo+1+k%4, 1+k%3))
			found, short := p.search(shapeOver(p, in), in, false)
			if !short || len(found) != c.count(in) {
				t.Errorf("halvings find %d roots, and the chain %d", len(found), c.count(in))
			}
			if count := p.count(in); count != len(found) {
				t.Errorf("count is %d, not %d", count, len(found))
			}
		}
	}
}

// TestChainTooLong has a polynomial with a chain of long numbers, for which the halvings take over, and one with the same numbers and a short chain.
func TestChainTooLong(t *testing.T) {
	great := wide.Int(3).Shift(6000)
	p := integers(1, -7, 5, 9, -3, 2, 8, -4, 6, -1, 3, 7, -5)
	for i, x := range p {
		p[i] = x.Mul(great).Add(wide.Int(i + 1))
	}
	p[0] = p[0].Neg()
	if _, short := sturm(p, someWork); short {
		t.Error("a long chain is not too long")
	}
	c, short := sturm(p, 1<<40)
	in := span(wide.Int(-9), wide.Int(9))
	if !short || p.count(in) != c.count(in) || c.count(in) < 2 {
		t.Errorf("count is %d, and that of the chain %d", p.count(in), c.count(in))
	}
	q := list{great, great.Neg(), wide.Int(0), wide.Int(1)}
	if _, short := sturm(q, someWork); !short {
		t.Error("a short chain is too long")
	}
}

// TestJumps: next to a cluster of roots, few steps lead over thousands of halvings.
func TestJumps(t *testing.T) {
	// Roots at 1/3, 1/3 + 2^-3000 and 1/3 - 2^-3000.
	third, tiny := ratio(1, 3), wide.Int(1).Quo(wide.Int(1).Shift(3000))
	p := list{wide.Int(1)}
	for _, x := range []wide.Num{third, third.Add(tiny), third.Add(tiny.Neg())} {
		p = append(list{wide.Int(0)}, p...).plus(p.scaledBy(x.Neg()))
	}
	p, _ = p.whole()
	in := span(wide.Int(0), wide.Int(1))
	b, steps, halvings := shapeOver(p, in), 0, 0
	for halvings < 2900 {
		steps++
		if steps > 100 {
			t.Fatalf("100 steps lead over %d halvings alone", halvings)
		}
		reach := min(max(steps, leastJump)<<min(steps/4, 8), 2950-halvings)
		if number, c, ok := b.jump(reach); ok {
			in, b = in.part(number, reach), c
			halvings += reach
			continue
		}
		lower, upper := in.halves()
		below, above := b.halves()
		in, b = lower, below
		if above.changes() > below.changes() {
			in, b = upper, above
		}
		halvings++
	}
	if in.low().Cmp(third) >= 0 || in.high().Cmp(third) <= 0 || b.changes() != 3 {
		t.Error("the steps lose the roots")
	}
	for i, x := range shapeOver(p, in) {
		if x.Sign() != b[i].Sign() {
			t.Errorf("sign %d of the shape is %d", i, b[i].Sign())
		}
	}
}

func (p list) scaledBy(c wide.Num) list {
	q := make(list, len(p))
	for i, x := range p {
		q[i] = x.Mul(c)
	}
	return q
}

// TestNarrowed: the number stays inside, and the interval becomes short in few steps.
func TestNarrowed(t *testing.T) {
	p := integers(-2, 0, 1)
	for _, in := range []interval{span(wide.Int(1), wide.Int(2)), span(wide.Int(-1), wide.Int(1000)), span(ratio(1, 3), ratio(22, 7))} {
		a := number{p, in, 1, 1}
		steps := 0
		for a.width().Mul(wide.Int(1).Shift(6000)).Cmp(a.den) > 0 {
			a = a.narrowed()
			steps++
			if p.signAt(a.lo, a.den) >= 0 || p.signAt(a.hi, a.den) <= 0 {
				t.Fatal("the interval has lost its root")
			}
		}
		if steps > 60 {
			t.Errorf("%d steps to 2^-6000", steps)
		}
	}
	a := number{integers(-1, 3), span(wide.Int(0), wide.Int(1)), 1, 1}
	for range 20 {
		a = a.narrowed()
	}
	if a.low().Cmp(ratio(1, 3)) >= 0 || a.high().Cmp(ratio(1, 3)) <= 0 {
		t.Error("the interval has lost 1/3")
	}
	a = number{integers(-3, 8), span(wide.Int(0), wide.Int(1)), 1, 1}
	for range 10 {
		a = a.narrowed()
	}
	if !a.isPoint() || a.high().Cmp(ratio(3, 8)) != 0 {
		t.Error("3/8 is not found")
	}
}

// TestCommonDivisorOfManyPrimes has a divisor whose numbers take many primes.
func TestCommonDivisorOfManyPrimes(t *testing.T) {
	common := list{wide.Int(5).Shift(2000).Add(wide.Int(1)), wide.Int(-7).Shift(900), wide.Int(3).Shift(1500).Add(wide.Int(2))}
	p, q := integers(1, 2, 3), integers(5, -1)
	product := func(a, b list) list {
		c := make(list, len(a)+len(b)-1)
		for k := range c {
			c[k] = a.timesAt(b, k)
		}
		return c
	}
	got := commonDivisor(product(common, p), product(common, q))
	for i, x := range got {
		if len(got) != 3 || x.Cmp(common[i]) != 0 {
			t.Errorf("number %d of the divisor is wrong", i)
		}
	}
}
