package linear

import (
	"isochrone/api"
	"isochrone/wide"
)

// fraction is num/den with integers and den > 0, not always in lowest terms: where only the sign of a long sum is wanted, reducing its parts would take most of the time.
type fraction struct {
	num, den wide.Num
}

func fractionOf(x wide.Num) fraction {
	return fraction{x.Numerator(), x.Denominator()}
}

// opposite returns -x.
func opposite(x api.Rat) fraction {
	return fractionOf(wide.Of(x).Neg())
}

// products returns the products of the numbers that stand at the same place of two lists of one length.
func products(a, b []api.Rat) []fraction {
	list := make([]fraction, len(a))
	for i := range a {
		x, y := fractionOf(wide.Of(a[i])), fractionOf(wide.Of(b[i]))
		list[i] = fraction{x.num.Mul(y.num), x.den.Mul(y.den)}
	}
	return list
}

// total returns the sum of a list. It adds halves, so that the denominators grow long only near the end.
func total(list []fraction) fraction {
	switch len(list) {
	case 0:
		return fractionOf(wide.Num{})
	case 1:
		return list[0]
	}
	middle := len(list) / 2
	return total(list[:middle]).plus(total(list[middle:]))
}

func (f fraction) plus(g fraction) fraction {
	if f.num.IsZero() {
		return g
	}
	if g.num.IsZero() {
		return f
	}
	return fraction{f.num.Mul(g.den).Add(g.num.Mul(f.den)), f.den.Mul(g.den)}
}

func (f fraction) sign() int {
	return f.num.Sign()
}
