package values

import (
	"slices"

	"isochrone/api"
	"isochrone/wide"
)

// roughBits is the number of binary digits of low and high in rough numbers.
const roughBits = 256

// rough stands for a number that is not known exactly: it is from low*2^exp to high*2^exp, with integers low and high.
type rough struct {
	low, high wide.Num
	exp       int
}

// roughSign returns the sign of the value, or 0 if it is not certain: the value is zero or near to it.
func roughSign(p api.Poly, at []api.Rat) int {
	point := make([][]rough, len(at))
	for i, x := range at {
		point[i] = roughPowers(x, degreeIn(p, i))
	}
	var terms []rough
	for _, m := range p.Terms {
		value := roughly(m.Coef)
		for i, k := range m.Exps {
			if k > 0 {
				value = value.times(point[i][k])
			}
		}
		if !value.isZero() {
			terms = append(terms, value)
		}
	}
	sum := roughSum(terms)
	switch {
	case sum.low.Sign() > 0:
		return 1
	case sum.high.Sign() < 0:
		return -1
	}
	return 0
}

func roughly(a api.Rat) rough {
	x := wide.Of(a)
	if x.IsZero() {
		return rough{}
	}
	places := roughBits + x.Denominator().Bits() - x.Numerator().Bits()
	q, _ := x.Numerator().Shift(places).DivMod(x.Denominator())
	return rough{q, q, -places}.wider()
}

// roughPowers returns the powers 0 to most of a.
func roughPowers(a api.Rat, most int) []rough {
	x, one := roughly(a), wide.Int(1)
	list := []rough{{one, one, 0}}
	for k := range most {
		list = append(list, list[k].times(x))
	}
	return list
}

// roughSum adds up numbers that are not zero.
func roughSum(list []rough) rough {
	var sum rough
	for i, r := range list {
		if i == 0 || r.exp > sum.exp {
			sum.exp = r.exp
		}
	}
	for _, r := range list {
		part := r.at(sum.exp)
		sum.low, sum.high = sum.low.Add(part.low), sum.high.Add(part.high)
	}
	return sum
}

func (r rough) isZero() bool {
	return r.low.IsZero() && r.high.IsZero()
}

// wider makes up for digits that were left out of low and high.
func (r rough) wider() rough {
	return rough{r.low.Add(wide.Int(-1)), r.high.Add(wide.Int(1)), r.exp}
}

// at returns the number with an exponent that is not less.
func (r rough) at(exp int) rough {
	if exp == r.exp {
		return r
	}
	return rough{r.low.Shift(r.exp - exp), r.high.Shift(r.exp - exp), exp}.wider()
}

func (r rough) times(s rough) rough {
	ends := []wide.Num{r.low.Mul(s.low), r.low.Mul(s.high), r.high.Mul(s.low), r.high.Mul(s.high)}
	slices.SortFunc(ends, func(x, y wide.Num) int { return x.Cmp(y) })
	product := rough{ends[0], ends[3], r.exp + s.exp}
	extra := max(product.low.Bits(), product.high.Bits()) - roughBits
	return product.at(product.exp + max(extra, 0))
}
