package ideal_test

import (
	"testing"

	"isochrone/api"
	"isochrone/ideal"
)

// TestLimit has generators whose reduced basis is not valid. Every function says so; but ErrNone and ErrRange come first.
func TestLimit(t *testing.T) {
	gens := longGenerators(seedOf201Words)
	checkCalls(t, "a basis that is not valid", genCalls(gens), api.ErrLimit)
	checkCalls(t, "a member", polyCalls(gens[0], gens), api.ErrLimit)
	checkCalls(t, "zero", polyCalls(api.Poly{N: 2}, gens), api.ErrLimit)
	x := read(2, "1*x1")
	cofactors, e := ideal.Cofactors(x, gens)
	sameList(t, "Cofactors of no member", cofactors, e, nil, api.ErrNone)
	p, e := ideal.Reduce(x, gens)
	same(t, "Reduce of no member", p, e, api.Poly{}, api.ErrLimit)
	isMember, e := ideal.Member(x, gens)
	sameValue(t, "Member of no member", isMember, e, false, api.ErrLimit)
	k, e := ideal.Power(x, gens, 4)
	sameValue(t, "Power", k, e, 0, api.ErrLimit)
	k, e = ideal.Power(x, gens, 5)
	sameValue(t, "Power up to 5", k, e, 0, api.ErrRange)
	list, e := ideal.Eliminate(gens, 1)
	sameList(t, "Eliminate", list, e, nil, api.ErrLimit)
	list, e = ideal.Eliminate(gens, 3)
	sameList(t, "Eliminate of 3", list, e, nil, api.ErrRange)
	isSame, e := ideal.Same(gens, readAll(2, "1*x0"))
	sameValue(t, "Same", isSame, e, false, api.ErrLimit)
	isSame, e = ideal.Same(readAll(2, "1*x0"), gens)
	sameValue(t, "Same, backwards", isSame, e, false, api.ErrLimit)
	// Checks does not need the basis.
	ok, e := ideal.Checks(gens[1], gens, readAll(2, "0", "1"))
	sameValue(t, "Checks", ok, e, true, api.OK)

	valid := longGenerators(seedOf200Words)
	basis, e := ideal.Basis(valid)
	if e != api.OK || longest(basis...) != 200 {
		t.Errorf("the basis has coefficients of %d words and error %d", longest(basis...), e)
	}
	checkCofactors(t, valid[1], valid, true)
	isSame, e = ideal.Same(valid, valid)
	sameValue(t, "Same of long ones", isSame, e, true, api.OK)
}
