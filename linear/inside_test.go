package linear

import (
	"math/bits"
	"testing"

	"isochrone/wide"
)

func ratio(num, den int) wide.Num {
	return wide.Int(num).Quo(wide.Int(den))
}

func (s span) contains(x wide.Num) bool {
	belowUpper := !s.upper.isEnd || satisfies(x.Cmp(s.upper.at), relOf(s.upper))
	return belowUpper && (!s.lower.isEnd || satisfies(s.lower.at.Cmp(x), relOf(s.lower)))
}

func relOf(e end) int {
	if e.isOpen {
		return less
	}
	return atMost
}

// firstIn returns the first number of a span in the order of denominators, and then of size.
func firstIn(s span) wide.Num {
	for den := 1; ; den++ {
		for size := range 20 * den {
			for _, num := range []int{size, -size} {
				if q := ratio(num, den); s.contains(q) {
					return q
				}
			}
		}
	}
}

func ends() []end {
	list := []end{{}}
	for num := -7; num <= 7; num++ {
		for den := 1; den <= 4; den++ {
			list = append(list, end{ratio(num, den), true, false}, end{ratio(num, den), true, true})
		}
	}
	return list
}

// TestSimplest compares with all fractions in order.
func TestSimplest(t *testing.T) {
	for _, lower := range ends() {
		for _, upper := range ends() {
			s := span{lower, upper}
			order := -1
			if lower.isEnd && upper.isEnd {
				order = lower.at.Cmp(upper.at)
			}
			if wantEmpty := order > 0 || order == 0 && (lower.isOpen || upper.isOpen); s.isEmpty() != wantEmpty {
				t.Errorf("isEmpty of %v is %t", s, s.isEmpty())
				continue
			}
			if s.isEmpty() {
				continue
			}
			got, want := s.simplest(), firstIn(s)
			// Numbers of one size are of the same kind if they differ in their sign.
			if !s.contains(got) || got.Denominator().Cmp(want.Denominator()) != 0 || got.Abs().Cmp(want.Abs()) != 0 {
				t.Errorf("the simplest number of %v is %v, not %v", s, got, want)
			}
		}
	}
}

func TestTighter(t *testing.T) {
	for _, e := range ends() {
		for _, f := range ends() {
			if !f.isEnd {
				continue
			}
			upper, lower := e.tighter(f, -1), e.tighter(f, 1)
			for num := -16; num <= 16; num++ {
				x := ratio(num, 2)
				if got, want := (span{upper: upper}).contains(x), (span{upper: e}).contains(x) && (span{upper: f}).contains(x); got != want {
					t.Errorf("of the upper ends %v and %v, %v is tighter", e, f, upper)
				}
				if got, want := (span{lower: lower}).contains(x), (span{lower: e}).contains(x) && (span{lower: f}).contains(x); got != want {
					t.Errorf("of the lower ends %v and %v, %v is tighter", e, f, lower)
				}
			}
		}
	}
}

func TestLeast(t *testing.T) {
	made := 0
	var offers []offer
	for number, lines := range []uint64{0b111, 0b011, 0b110, 0b101, 0b100000, 0b011, 0b1000, 0b11000, 0b1 << 63} {
		offers = append(offers, offer{lines, func() row { made++; return row{rel: number} }})
	}
	want := []uint64{0b100000, 0b1000, 0b1 << 63, 0b011, 0b110, 0b101}
	got := least(offers)
	if len(got) != len(want) {
		t.Fatalf("%d offers are left", len(got))
	}
	for k, o := range got {
		if o.lines != want[k] {
			t.Errorf("offer %d is of %b, not %b", k, o.lines, want[k])
		}
	}
	if r := got[3].build(); r.rel != 1 || made != 1 {
		t.Errorf("of two offers, the other one is left: %d, and %d are made", r.rel, made)
	}
	if offers[0].lines != 0b111 || len(least(nil)) != 0 {
		t.Error("the list of offers has changed")
	}
}

// TestFewLines: a row is made of at most one line more than variables are gone, apart from equations.
func TestFewLines(t *testing.T) {
	state := uint32(1)
	next := func(most int) int {
		state = state*1664525 + 1013904223
		return int(state>>16) % (most + 1)
	}
	for range 200 {
		var rows []row
		for range 10 {
			r := row{rel: 1 + next(1)}
			for range 4 {
				r.nums = append(r.nums, wide.Int(next(20)-10))
			}
			rows = append(rows, r)
		}
		rungs := ladder(certified(rows), 3)
		for k, rung := range rungs {
			for _, r := range rung {
				if bits.OnesCount64(r.lines) > k+1 {
					t.Errorf("a row of rung %d is made of lines %b", k, r.lines)
				}
				checkSum(t, r, rows)
			}
		}
	}
}

// checkSum checks that a row is the sum of the given rows times its multipliers.
func checkSum(t *testing.T, r row, given []row) {
	t.Helper()
	sums := make([]wide.Num, 4)
	for k, x := range r.multipliers(3) {
		if x.Sign() < 0 || x.IsZero() != (r.lines>>k&1 == 0) {
			t.Errorf("multiplier %d is %v in a row of lines %b", k, x, r.lines)
		}
		for i, y := range given[k].nums {
			sums[i] = sums[i].Add(x.Mul(y))
		}
	}
	for i, x := range sums {
		if x.Cmp(r.nums[i]) != 0 {
			t.Errorf("number %d of a row is %v, and the sum is %v", i, r.nums[i], x)
		}
	}
}

func TestDeterminant(t *testing.T) {
	rowOf := func(coefs ...int) row {
		r := row{nums: []wide.Num{wide.Int(99)}}
		for _, c := range coefs {
			r.nums = append(r.nums, wide.Int(c))
		}
		return r
	}
	cases := []struct {
		rows []row
		want int
	}{
		{nil, 1}, {[]row{rowOf(0, -5, 2)}, 5}, {[]row{rowOf(0, 0, 7)}, 7}, {[]row{rowOf(1, 2, 3), rowOf(2, 4, 7)}, 1}, {[]row{rowOf(2, 1, 0), rowOf(4, 5, 0)}, 6},
		{[]row{rowOf(1, 2, 3), rowOf(0, 1, 4), rowOf(5, 6, 0)}, 1}, {[]row{rowOf(0, 2, 0), rowOf(0, 0, 3), rowOf(-4, 1, 1)}, 24},
	}
	for k, c := range cases {
		if got := determinant(c.rows, 3); got.Abs().Cmp(wide.Int(c.want)) != 0 {
			t.Errorf("determinant %d is %v, not %d", k, got, c.want)
		}
	}
}
