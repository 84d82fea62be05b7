package linear_test

import (
	"slices"
	"testing"

	"isochrone/api"
	"isochrone/linear"
)

// TestNeverBoth: if a system has a point, there is no refutation of it. For any point and any refutation of a part of the lines, one of the two fails.
func TestNeverBoth(t *testing.T) {
	s := source(20)
	both := 0
	for range 2000 {
		n := s.upTo(3)
		list, other := s.system(n, 5), s.system(n, 5)
		point, okPoint := solved(t, n, list)
		_, refutation, _ := linear.Solve(n, other)
		if !okPoint || len(refutation) == 0 {
			continue
		}
		both++
		all := with(list, other...)
		holds := must[bool](t)(linear.Holds(n, all, point))
		fails := must[bool](t)(linear.Refutes(n, all, slices.Concat(read(zeros(5)), refutation)))
		if holds || !fails {
			t.Errorf("Holds of %s and %s is %t, and Refutes is %t", briefLines(all), briefList(point), holds, fails)
		}
	}
	if both < 200 {
		t.Errorf("only %d pairs", both)
	}
}

// TestMoreLines: a line more never adds points, and never makes a supremum greater.
func TestMoreLines(t *testing.T) {
	s := source(21)
	for range 800 {
		n := 1 + s.upTo(2)
		list := s.system(n, s.upTo(9))
		more := with(list, s.system(n, 1)...)
		if has(t, n, more) && !has(t, n, list) {
			t.Errorf("%s has a point, but not without its last line", briefLines(more))
		}
		var coefs []api.Rat
		for range n {
			coefs = append(coefs, fromBigRat(s.small()))
		}
		kind, sup, _ := linear.Max(n, list, coefs)
		kindMore, supMore, _ := linear.Max(n, more, coefs)
		if kind == 0 && kindMore != 0 || kind > 1 && (kindMore == 1 || kindMore > 1 && toBigRat(supMore).Cmp(toBigRat(sup)) > 0) {
			t.Errorf("Max of %s is %d, %s, but of the last but one %d, %s", briefLines(more), kindMore, brief(supMore), kind, brief(sup))
		}
		if kind == 3 && kindMore == 2 && equalNumbers(sup, supMore) {
			t.Errorf("Max of %s is reached only with its last line", briefLines(more))
		}
	}
}

// TestProjectAll: the lines that are left when all variables are projected, one by one in any order, hold exactly if the system has a point.
func TestProjectAll(t *testing.T) {
	s := source(22)
	count := map[bool]int{}
	for range 1500 {
		n := 1 + s.upTo(2)
		first := s.system(n, s.upTo(8))
		list := first
		order := [][]int{{0, 1, 2}, {2, 0, 1}, {1, 2, 0}, {2, 1, 0}}[s.upTo(3)]
		for _, i := range order {
			if i < n {
				list = projected(t, n, list, i)
			}
		}
		holds := isOnAll(list, read(zeros(n)))
		for _, l := range list {
			if !equalLists(l.Coefs, read(zeros(n))) {
				t.Errorf("%s is left of %s", briefLines(list), briefLines(first))
			}
		}
		if holds != has(t, n, first) {
			t.Errorf("%s is left of %s", briefLines(list), briefLines(first))
		}
		count[holds]++
	}
	if count[true] < 200 || count[false] < 200 {
		t.Errorf("%d systems with a point and %d without", count[true], count[false])
	}
}

// TestMaxAndProject: the supremum of a variable is the end that projecting the other ones leaves.
func TestMaxAndProject(t *testing.T) {
	s := source(23)
	for range 500 {
		n := 1 + s.upTo(2)
		first := s.system(n, s.upTo(7))
		list := first
		for i := range n - 1 {
			list = projected(t, n, list, i)
		}
		coefs := read(zeros(n))
		coefs[n-1] = number("1")
		kind, sup, e := linear.Max(n, first, coefs)
		kindOf, supOf, f := linear.Max(n, list, coefs)
		if kind != kindOf || !equalNumbers(sup, supOf) || e != api.OK || f != api.OK {
			t.Errorf("Max of %s is %d, %s, and of %s %d, %s", briefLines(first), kind, brief(sup), briefLines(list), kindOf, brief(supOf))
		}
	}
}
