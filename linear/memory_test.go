package linear_test

import (
	"testing"

	"isochrone/api"
	"isochrone/linear"
)

// spoil changes all memory of a number, also what its slices could grow into.
func spoil(x api.Rat) {
	for _, words := range [][]uint32{x.Num, x.Den} {
		words = words[:cap(words)]
		for i := range words {
			words[i] ^= 0x55555555
		}
	}
}

// result has the numbers that a call returns, and the lists that hold them.
type result struct {
	lists [][]api.Rat
	rest  []api.Rat
	e     api.Errno
}

func (r result) numbers() []api.Rat {
	var all []api.Rat
	for _, list := range r.lists {
		all = append(all, list...)
	}
	return append(all, r.rest...)
}

func solveResult(point, refutation []api.Rat, e api.Errno) result {
	return result{[][]api.Rat{point, refutation}, nil, e}
}

func maxResult(_ int, sup api.Rat, e api.Errno) result {
	return result{nil, []api.Rat{sup}, e}
}

func projectResult(list []api.Line, e api.Errno) result {
	r := result{e: e}
	for _, l := range list {
		r.lists = append(r.lists, l.Coefs)
		r.rest = append(r.rest, l.Const)
	}
	return r
}

// TestMemory: calls leave their arguments as they are, and results share no memory with them, with each other or within themselves.
func TestMemory(t *testing.T) {
	list := lines("2/3 1/5 = 7/9", "1 -1/7 <= 11/2", "-1 3/4 < 5", "0 -1/3 <= 6/5", "1 0 <= 5/7")
	none := lines("2/3 1/5 <= 7/9", "-2/3 -1/5 <= -8/9", "1 1/3 <= 0")
	free := lines("1 1/3 <= 5/2", "1 -2/7 < 5/2", "-1 1/3 <= 5/2", "-1 -2/7 < 5/2", "0 1 <= 1/2")
	point := lines("1/3 1/4 = 1", "1/2 1/5 = 1")
	coefs, numbers := read("5/3 -2/7"), read("1/2 3/8 0")
	all := [][]api.Line{list, none, free, point}
	calls := map[string]func() result{
		"Solve":                  func() result { return solveResult(linear.Solve(2, list)) },
		"Solve of no lines":      func() result { return solveResult(linear.Solve(3, nil)) },
		"Solve of one point":     func() result { return solveResult(linear.Solve(2, point)) },
		"a refutation":           func() result { return solveResult(linear.Solve(2, none)) },
		"Max":                    func() result { return maxResult(linear.Max(2, list, coefs)) },
		"Max of no points":       func() result { return maxResult(linear.Max(2, none, coefs)) },
		"Max of a coordinate":    func() result { return maxResult(linear.Max(2, list, read("1 0"))) },
		"Project":                func() result { return projectResult(linear.Project(2, list, 0)) },
		"Project of no equation": func() result { return projectResult(linear.Project(2, free, 0)) },
		"Project by 1":           func() result { return projectResult(linear.Project(2, free, 1)) },
		"Project of one line":    func() result { return projectResult(linear.Project(2, list[4:], 1)) },
		"others": func() result {
			linear.Check(2, list)
			linear.Holds(2, list, coefs)
			linear.Refutes(2, none, numbers)
			linear.Text(2, list[0])
			return result{nil, read("1"), api.OK}
		},
	}
	var before [][]api.Line
	for _, l := range all {
		before = append(before, cloneLines(l))
	}
	coefsBefore, numbersBefore := cloneList(coefs), cloneList(numbers)
	for name, call := range calls {
		first := call()
		if first.e != api.OK || len(first.numbers()) == 0 {
			t.Errorf("%s has error %d and %d numbers", name, first.e, len(first.numbers()))
		}
		want := cloneList(first.numbers())
		second := call()
		for _, x := range second.numbers() {
			spoil(x)
		}
		for _, numbers := range second.lists {
			clear(numbers[:cap(numbers)])
		}
		for k, l := range all {
			if !equalLines(l, before[k]) {
				t.Fatalf("the result of %s shares memory with an argument, or the call changes one", name)
			}
		}
		if !equalLists(coefs, coefsBefore) || !equalLists(numbers, numbersBefore) {
			t.Fatalf("the result of %s shares memory with a list, or the call changes one", name)
		}
		if !equalLists(first.numbers(), want) || !equalLists(call().numbers(), want) {
			t.Errorf("two results of %s differ or share memory", name)
		}
		checkApart(t, name, call, want)
	}
}

// checkApart checks that no two numbers and no two lists of a result share memory.
func checkApart(t *testing.T, name string, call func() result, want []api.Rat) {
	t.Helper()
	for i := range want {
		numbers := call().numbers()
		spoil(numbers[i])
		for k := range numbers {
			if k != i && !equalNumbers(numbers[k], want[k]) {
				t.Errorf("numbers %d and %d of the result of %s share memory", i, k, name)
			}
		}
	}
	for i := range call().lists {
		got := call()
		clear(got.lists[i][:cap(got.lists[i])])
		at := 0
		for k, list := range got.lists {
			if k != i && !equalLists(list, want[at:at+len(list)]) {
				t.Errorf("lists %d and %d of the result of %s share memory", i, k, name)
			}
			at += len(list)
		}
		if !equalLists(got.rest, want[at:]) {
			t.Errorf("list %d of the result of %s has more numbers in its memory", i, name)
		}
	}
}
