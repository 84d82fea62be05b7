package ideal_test

import (
	"math/big"
	"testing"

	"isochrone/api"
	"isochrone/ideal"
)

// outcome says whether the other results of a call are zero, and its error.
type outcome struct {
	zero bool
	e    api.Errno
}

func listOutcome(list []api.Poly, e api.Errno) outcome { return outcome{len(list) == 0, e} }

func polyOutcome(p api.Poly, e api.Errno) outcome { return outcome{equal(p, api.Poly{}), e} }

func boolOutcome(b bool, e api.Errno) outcome { return outcome{!b, e} }

// genCalls are calls that have generators alone, all of them within range.
func genCalls(gens []api.Poly) map[string]outcome {
	calls := map[string]outcome{"Basis": listOutcome(ideal.Basis(gens)), "Eliminate": listOutcome(ideal.Eliminate(gens, 0)), "Same": boolOutcome(ideal.Same(gens, nil))}
	calls["Same, backwards"] = boolOutcome(ideal.Same(nil, gens))
	calls["Same twice"] = boolOutcome(ideal.Same(gens, gens))
	return calls
}

// polyCalls are calls that have a polynomial too.
func polyCalls(p api.Poly, gens []api.Poly) map[string]outcome {
	k, e := ideal.Power(p, gens, 1)
	return map[string]outcome{"Reduce": polyOutcome(ideal.Reduce(p, gens)), "Member": boolOutcome(ideal.Member(p, gens)), "Cofactors": listOutcome(ideal.Cofactors(p, gens)), "Power": {k == 0, e}}
}

// checkCalls checks the error of calls.
func checkCalls(t *testing.T, what string, calls map[string]outcome, want api.Errno) {
	t.Helper()
	for name, got := range calls {
		isRight := got.e == want || want == api.OK && name == "Cofactors" && got.e == api.ErrNone
		if !isRight || got.e != api.OK && !got.zero {
			t.Errorf("%s of %s has error %d and zero results: %v; the error should be %d", name, what, got.e, got.zero, want)
		}
	}
}

// invalid returns polynomials in 2 variables, or nearly so, that are not valid.
func invalid() map[string]api.Poly {
	one := fromBigRat(power(0))
	of := func(n int, coef api.Rat, lists ...[]int) api.Poly {
		p := api.Poly{N: n}
		for _, exps := range lists {
			p.Terms = append(p.Terms, api.Mono{Exps: exps, Coef: coef})
		}
		return p
	}
	return map[string]api.Poly{
		"N below 0": {N: -1}, "N above MaxVars": {N: 9}, "a coefficient 0": of(2, fromBigRat(new(big.Rat)), []int{1, 0}), "no coefficient": of(2, api.Rat{}, []int{1, 0}),
		"no exponents": of(2, one, nil), "an exponent too many": of(2, one, []int{1, 0, 0}), "an exponent below 0": of(2, one, []int{2, -1}), "a degree above MaxDegree": of(2, one, []int{20, 21}),
		"a term twice": of(2, one, []int{1, 1}, []int{1, 1}), "ascending terms": of(2, one, []int{0, 1}, []int{1, 0}), "not in lowest terms": of(2, api.Rat{Num: []uint32{2}, Den: []uint32{4}}, []int{1, 0}),
		"a zero word": of(2, api.Rat{Num: []uint32{2, 0}, Den: []uint32{1}}, []int{1, 0}), "no denominator": of(2, api.Rat{Num: []uint32{2}}, []int{1, 0}),
	}
}

func TestForm(t *testing.T) {
	x, y := read(2, "1*x0"), read(2, "1*x1 + 1")
	lists := map[string][]api.Poly{
		"four generators": {x, y, x, y}, "five generators": {x, y, x, y, x}, "generators of other variables": {x, read(3, "1*x0")}, "zero in other variables": {x, y, {N: 1}}, "zero in fewer variables first": {{N: 1}, x},
		"three words": {monomial(power(64), 1, 0).poly(2)}, "three words below": {x, monomial(power(-64), 1, 0).poly(2)}, "four zeros": {{N: 2}, {N: 2}, {N: 2}, {N: 2}}, "three words of four variables": {monomial(power(64), 1, 0).poly(4)},
		"a budget that is exceeded": {read(2, "1*x0^4"), {N: 2, Terms: []api.Mono{{}}}},
	}
	for what, p := range invalid() {
		lists[what] = []api.Poly{p}
		lists[what+" behind another one"] = []api.Poly{x, p}
		checkCalls(t, "a polynomial with "+what, polyCalls(p, []api.Poly{x}), api.ErrForm)
		checkCalls(t, "a polynomial, without generators, with "+what, polyCalls(p, nil), api.ErrForm)
	}
	for what, gens := range lists {
		checkCalls(t, what, genCalls(gens), api.ErrForm)
		checkCalls(t, what, polyCalls(x, gens), api.ErrForm)
	}
	for what, p := range map[string]api.Poly{"three words": monomial(power(64), 1, 0).poly(2), "three words below": monomial(power(-64), 1, 0).poly(2), "other variables": read(3, "1*x0"), "fewer variables": {N: 1}, "other variables and a high degree": read(1, "1*x0^7")} {
		checkCalls(t, "a polynomial of "+what, polyCalls(p, []api.Poly{x, y}), api.ErrForm)
		checkCalls(t, "a polynomial for zero of "+what, polyCalls(p, []api.Poly{{N: 2}}), api.ErrForm)
		checkCalls(t, "a polynomial for generators beyond the budget, of "+what, polyCalls(p, []api.Poly{read(2, "1*x0^4")}), api.ErrForm)
	}
	checkCalls(t, "a polynomial of three words without generators", polyCalls(monomial(power(64), 1).poly(1), nil), api.ErrForm)
	e := boolOutcome(ideal.Same([]api.Poly{x}, readAll(3, "1*x0")))
	checkCalls(t, "other variables", map[string]outcome{"Same": e, "Same of zero": boolOutcome(ideal.Same([]api.Poly{x}, []api.Poly{{N: 3}})), "Same beyond the budget": boolOutcome(ideal.Same(readAll(4, "1*x0"), readAll(5, "1*x0")))}, api.ErrForm)
	e = boolOutcome(ideal.Same(readAll(2, "1*x0^4"), []api.Poly{{N: 2, Terms: []api.Mono{{}}}}))
	checkCalls(t, "a list that is not valid behind one beyond the budget", map[string]outcome{"Same": e}, api.ErrForm)
}

// TestBudget has the longest arguments that are within the budget, and those beyond it.
func TestBudget(t *testing.T) {
	good := [][]api.Poly{readAll(1, "1*x0^3"), readAll(2, "1*x0^3", "1*x0^2*x1", "1*x1^3 + 1"), readAll(3, "1*x0^2", "1*x1*x2", "1*x2^2 + 1"), {{N: 1}}, {{N: 3}, {N: 3}}, {monomial(new(big.Rat).Sub(power(64), power(0)), 1).poly(2)}, {monomial(new(big.Rat).Inv(new(big.Rat).Sub(power(64), power(0))), 1).poly(2), read(2, "1")}}
	for _, gens := range good {
		n := gens[0].N
		checkCalls(t, show(gens...), map[string]outcome{"Basis": listOutcome(ideal.Basis(gens)), "Eliminate": listOutcome(ideal.Eliminate(gens, n))}, api.OK)
		checkCalls(t, show(gens...), polyCalls(read(n, "1*x0^6"), gens), api.OK)
		checkCalls(t, show(gens...), polyCalls(monomial(new(big.Rat).Sub(power(64), power(0)), 6).poly(n), gens), api.OK)
		checkCalls(t, show(gens...), polyCalls(read(n, "1*x0^7"), gens), api.ErrBudget)
		checkCalls(t, show(gens...), polyCalls(read(n, "2*x0^7 + 1*x0^6 + 1"), gens), api.ErrBudget)
	}
	bad := [][]api.Poly{{{N: 0}}, readAll(0, "1"), {{N: 4}}, readAll(4, "1*x0"), readAll(8, "1*x0"), readAll(1, "1*x0^4"), readAll(2, "1*x0", "1*x0^4"), readAll(2, "1*x0^2*x1^2"), readAll(2, "1*x0^2*x1^2 + 1*x0^2"), readAll(3, "1*x0^3"), readAll(3, "1*x0", "1*x2", "1*x0*x1*x2"), readAll(2, "1", "1*x1^5"), readAll(3, "1*x1^40")}
	for _, gens := range bad {
		n := gens[0].N
		checkCalls(t, show(gens...), genCalls(gens), api.ErrBudget)
		checkCalls(t, show(gens...), polyCalls(read(n, "1"), gens), api.ErrBudget)
		e := listOutcome(ideal.Eliminate(gens, n+1))
		checkCalls(t, show(gens...), map[string]outcome{"Eliminate": e, "Eliminate of -1": listOutcome(ideal.Eliminate(gens, -1)), "Same of good ones": boolOutcome(ideal.Same(nil, gens))}, api.ErrBudget)
		k, f := ideal.Power(read(n, "1"), gens, 0)
		checkCalls(t, show(gens...), map[string]outcome{"Power": {k == 0, f}}, api.ErrBudget)
	}
	for n := 1; n <= api.MaxVars; n++ {
		checkCalls(t, "a high degree without generators", polyCalls(read(n, "1*x0^6*x0"), nil), api.ErrBudget)
		checkCalls(t, "degree 6 without generators", polyCalls(read(n, "1*x0^5*x0 + 1"), nil), api.OK)
	}
}
