package ideal_test

import (
	"math/big"
	"testing"

	"isochrone/api"
	"isochrone/ideal"
	"isochrone/poly"
)

func TestChecks(t *testing.T) {
	for _, c := range []struct {
		n               int
		p               string
		gens, cofactors []string
		want            bool
	}{
		{2, "1*x0^2 + -1*x1^2", []string{"1*x0 + 1*x1"}, []string{"1*x0 + -1*x1"}, true},
		{2, "1*x0^2 + -1*x1^2", []string{"1*x0 + 1*x1"}, []string{"1*x0 + 1*x1"}, false},
		{2, "1*x0^2 + -1*x1^2", []string{"1*x0 + 1*x1"}, []string{"0"}, false},
		{2, "0", []string{"1*x0 + 1*x1"}, []string{"0"}, true},
		{2, "0", []string{"0"}, []string{"1*x0"}, true},
		{2, "0", []string{"1*x0", "1*x1"}, []string{"5*x1", "-5*x0"}, true},
		{2, "1", []string{"1*x0*x1 + -1", "1*x0"}, []string{"-1", "1*x1"}, true},
		{2, "1", []string{"1*x0", "1*x0*x1 + -1"}, []string{"-1", "1*x1"}, false},
		{0, "6", []string{"2", "3"}, []string{"3/2", "1"}, true},
		{0, "6", []string{"2", "3"}, []string{"3/2", "2"}, false},
		{1, "1*x0^10", []string{"1*x0^5"}, []string{"1*x0^5"}, true},
		{8, "1*x7^40", []string{"1*x7^20"}, []string{"1*x7^20"}, true},
		{4, "1*x3", []string{"1*x0^30", "1*x1^30", "1*x3"}, []string{"1*x1^10", "-1*x0^10", "1"}, false},
		{4, "1*x0^30*x1^10 + -1*x0^10*x1^30 + 1*x3", []string{"1*x0^30", "1*x1^30", "1*x3"}, []string{"1*x1^10", "-1*x0^10", "1"}, true},
	} {
		got, e := ideal.Checks(read(c.n, c.p), readAll(c.n, c.gens...), readAll(c.n, c.cofactors...))
		sameValue(t, "Checks of "+c.p, got, e, c.want, api.OK)
	}
	for n := range api.MaxVars + 1 {
		got, e := ideal.Checks(api.Poly{N: n}, nil, nil)
		sameValue(t, "Checks of zero without generators", got, e, true, api.OK)
		got, e = ideal.Checks(read(n, "1"), nil, nil)
		sameValue(t, "Checks of 1 without generators", got, e, false, api.OK)
	}
}

func TestChecksForm(t *testing.T) {
	x, gens := read(2, "1*x0"), readAll(2, "1*x0", "1*x1")
	good := readAll(2, "1", "0")
	twoWords, threeWords := monomial(power(63), 1, 0).poly(2), monomial(power(64), 1, 0).poly(2)
	invalid := api.Poly{N: 2, Terms: []api.Mono{{Exps: []int{1}, Coef: fromBigRat(power(0))}}}
	for what, c := range map[string]struct {
		p               api.Poly
		gens, cofactors []api.Poly
		want            bool
		e               api.Errno
	}{
		"good ones":                            {x, gens, good, true, api.OK},
		"no cofactors":                         {x, gens, nil, false, api.ErrForm},
		"a cofactor too few":                   {x, gens, good[:1], false, api.ErrForm},
		"a cofactor too many":                  {x, gens, append(good[:2:2], good[1]), false, api.ErrForm},
		"cofactors without generators":         {x, nil, good, false, api.ErrForm},
		"a cofactor that is not valid":         {x, gens, []api.Poly{good[0], invalid}, false, api.ErrForm},
		"a cofactor of other variables":        {x, gens, []api.Poly{good[0], read(1, "0")}, false, api.ErrForm},
		"cofactors of other variables":         {x, gens, readAll(3, "1", "0"), false, api.ErrForm},
		"a p that is not valid":                {invalid, gens, good, false, api.ErrForm},
		"a p of other variables":               {read(1, "1*x0"), gens, good, false, api.ErrForm},
		"a p of two words":                     {twoWords, gens, []api.Poly{monomial(power(63), 0, 0).poly(2), good[1]}, true, api.OK},
		"a p of three words":                   {threeWords, gens, []api.Poly{monomial(power(64), 0, 0).poly(2), good[1]}, false, api.ErrForm},
		"a generator that is not valid":        {x, []api.Poly{gens[0], invalid}, good, false, api.ErrForm},
		"a generator of three words":           {x, []api.Poly{gens[0], threeWords}, good, false, api.ErrForm},
		"a generator of three words below":     {x, []api.Poly{gens[0], monomial(power(-64), 1, 0).poly(2)}, good, false, api.ErrForm},
		"a generator of other variables":       {x, []api.Poly{gens[0], read(3, "1*x0")}, good, false, api.ErrForm},
		"four generators":                      {x, []api.Poly{x, x, x, x}, []api.Poly{good[0], good[1], good[1], good[1]}, false, api.ErrForm},
		"a cofactor of three words":            {x, []api.Poly{twoWords, gens[1]}, []api.Poly{monomial(power(-63), 0, 0).poly(2), monomial(power(64), 1, 0).poly(2)}, false, api.OK},
		"cofactors of three words that cancel": {x, []api.Poly{gens[0], gens[0]}, []api.Poly{read(2, "36893488147419103233"), read(2, "-36893488147419103232")}, true, api.OK},
	} {
		got, e := ideal.Checks(c.p, c.gens, c.cofactors)
		sameValue(t, "Checks with "+what, got, e, c.want, c.e)
	}
}

// TestChecksLimit: products and the sum must be valid, but the sum of some products need not be.
func TestChecksLimit(t *testing.T) {
	most := new(big.Rat).Sub(power(32*200), power(0))
	of := func(c *big.Rat, exps ...int) api.Poly { return monomial(c, exps...).poly(1) }
	one, two, x := of(power(0), 0), of(power(1), 0), of(power(0), 1)
	minus := of(big.NewRat(-1, 1), 0)
	for what, c := range map[string]struct {
		p               api.Poly
		gens, cofactors []api.Poly
		want            bool
		e               api.Errno
	}{
		"a product of 200 words":       {x, []api.Poly{one}, []api.Poly{of(most, 0)}, false, api.OK},
		"a product of 201 words":       {x, []api.Poly{two}, []api.Poly{of(most, 0)}, false, api.ErrLimit},
		"a product of degree 40":       {x, []api.Poly{of(power(0), 20)}, []api.Poly{of(power(0), 20)}, false, api.OK},
		"a product of degree 41":       {x, []api.Poly{of(power(0), 21)}, []api.Poly{of(power(0), 20)}, false, api.ErrLimit},
		"a long product that cancels":  {x, []api.Poly{two, two, one}, []api.Poly{of(most, 0), of(new(big.Rat).Neg(most), 0), x}, false, api.ErrLimit},
		"a sum of 201 words":           {x, []api.Poly{one, one}, []api.Poly{of(most, 0), one}, false, api.ErrLimit},
		"a sum of 201 words below":     {x, []api.Poly{one, one}, []api.Poly{of(power(-6399), 0), of(new(big.Rat).Inv(most), 0)}, false, api.ErrLimit},
		"a sum that is long meanwhile": {x, []api.Poly{one, one, minus}, []api.Poly{of(most, 0), x, of(most, 0)}, true, api.OK},
		"a longer sum meanwhile":       {x, []api.Poly{one, minus, one}, []api.Poly{of(most, 0), of(new(big.Rat).Neg(most), 0), of(new(big.Rat).Neg(most), 0)}, false, api.OK},
		"a sum of 201 words meanwhile": {of(power(0), 0), []api.Poly{one, one, minus}, []api.Poly{of(most, 0), one, of(most, 0)}, true, api.OK},
	} {
		got, e := ideal.Checks(c.p, c.gens, c.cofactors)
		sameValue(t, "Checks with "+what, got, e, c.want, c.e)
	}
}

// TestChecksTerms has products of as many terms as there may be; their sum has too many, and with one more product it has none.
func TestChecksTerms(t *testing.T) {
	low, high, one := api.Poly{N: 8}, api.Poly{N: 8}, read(8, "1")
	for i, p := range s8(t) {
		low = must(t)(poly.Add(low, p))
		if i%2 == 0 {
			high = must(t)(poly.Add(high, must(t)(poly.Mul(p, read(8, "1*x0^20")))))
		}
	}
	minus := must(t)(poly.Sub(api.Poly{N: 8}, low))
	got, e := ideal.Checks(high, []api.Poly{one, one}, []api.Poly{low, high})
	sameValue(t, "Checks with a sum of too many terms", got, e, false, api.ErrLimit)
	got, e = ideal.Checks(high, []api.Poly{one, one, one}, []api.Poly{low, high, minus})
	sameValue(t, "Checks with a sum of too many terms meanwhile", got, e, true, api.OK)
	got, e = ideal.Checks(low, []api.Poly{one, one, one}, []api.Poly{low, high, minus})
	sameValue(t, "Checks with another p", got, e, false, api.OK)
}

// s8 returns polynomials in 8 variables whose terms are all different, 3003 in all.
func s8(t *testing.T) []api.Poly {
	t.Helper()
	var list []api.Poly
	p := table{}
	for _, m := range monomials(8, 6) {
		p[m] = big.NewRat(1, 1)
		if len(p) == 1001 {
			list = append(list, p.poly(8))
			p = table{}
		}
	}
	if len(list) != 3 || len(p) > 0 {
		t.Fatalf("%d polynomials and %d terms", len(list), len(p))
	}
	return list
}
