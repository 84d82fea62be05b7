package square

import (
	"iter"
	"slices"

	"isochrone/api"
	"isochrone/poly"
	"isochrone/wide"
)

// maxCoefWords is the number of words that Num and Den of a coefficient of a valid polynomial may have.
const maxCoefWords = 200

// part is a summand: a factor times the terms of a polynomial.
type part struct {
	factor wide.Num
	terms  []api.Mono
}

// sumOf returns the polynomial of a sum of squares in n variables, or false if one of the squares or the sum is not valid.
func sumOf(squares []api.Square, n int) (sum api.Poly, fits bool) {
	den, factors := commonDenominator(squares)
	var parts []part
	for _, s := range squares {
		product, e := poly.Mul(s.Poly, s.Poly)
		if e != api.OK {
			return api.Poly{}, false
		}
		parts = append(parts, part{wide.Of(s.Weight).Mul(den), product.Terms})
	}
	sum.N = n
	for exps, coef := range total(parts) {
		// By one factor at a time, since a short divisor is quickly reduced.
		for _, d := range factors {
			coef = coef.Quo(d)
		}
		if len(sum.Terms) == api.MaxTerms || !coef.Fits(maxCoefWords) {
			return api.Poly{}, false
		}
		sum.Terms = append(sum.Terms, api.Mono{Exps: exps, Coef: coef.Rat()})
	}
	return sum, true
}

// commonDenominator returns a number whose products with the weights are integers, and factors of it. So denominators of weights, which may be long, do not grow in each coefficient of the sum.
func commonDenominator(squares []api.Square) (den wide.Num, factors []wide.Num) {
	den = wide.Int(1)
	for _, s := range squares {
		factor := wide.Of(s.Weight).Mul(den).Denominator()
		den, factors = den.Mul(factor), append(factors, factor)
	}
	return den, factors
}

// total yields the terms of the sum of some parts that are not zero, in descending order. The coefficients have no limit.
func total(parts []part) iter.Seq2[[]int, wide.Num] {
	type term struct {
		exps   []int
		factor wide.Num
		coef   api.Rat
	}
	return func(yield func(exps []int, coef wide.Num) bool) {
		var rest []term
		for _, p := range parts {
			for _, m := range p.terms {
				rest = append(rest, term{m.Exps, p.factor, m.Coef})
			}
		}
		slices.SortFunc(rest, func(a, b term) int { return slices.Compare(b.exps, a.exps) })
		for len(rest) > 0 {
			exps, sum := rest[0].exps, wide.Num{}
			for len(rest) > 0 && slices.Equal(rest[0].exps, exps) {
				sum = sum.Add(rest[0].factor.Mul(wide.Of(rest[0].coef)))
				rest = rest[1:]
			}
			if !sum.IsZero() && !yield(exps, sum) {
				return
			}
		}
	}
}
