package wide

import "testing"

func ratioOf(num, den int) Num {
	return Int(num).Quo(Int(den))
}

// TestBetween compares with all fractions in the order of their denominators.
func TestBetween(t *testing.T) {
	check := func(lo, hi Num) {
		t.Helper()
		got := Between(lo, hi)
		for den := 1; ; den++ {
			// The one of the least size is first from 0 on.
			for size := range 6 * den {
				for _, num := range []int{size, -size} {
					q := ratioOf(num, den)
					if q.Cmp(lo) <= 0 || q.Cmp(hi) >= 0 {
						continue
					}
					if q.Cmp(got) != 0 {
						t.Errorf("the simplest number is %v, not %v", got, q)
					}
					return
				}
			}
		}
	}
	for num := -30; num <= 30; num++ {
		for den := 1; den <= 7; den++ {
			for _, width := range []Num{ratioOf(1, 100), ratioOf(1, 9), ratioOf(1, 3), Int(1), ratioOf(5, 2)} {
				lo := ratioOf(num, den*2)
				if hi := lo.Add(width); hi.Cmp(Int(5)) < 0 && lo.Cmp(Int(-5)) > 0 {
					check(lo, hi)
				}
			}
		}
	}
}

// TestBetweenOfLongNumbers: the number is strictly between, and not longer than that of the sums of numerators and denominators, which is between, too.
func TestBetweenOfLongNumbers(t *testing.T) {
	s := source(21)
	for range 200 {
		lo := fromBigRat(s.ratio(8))
		hi := lo.Add(ratioOf(1, 1+s.upTo(40)).Mul(Int(1).Quo(Int(1).Shift(s.upTo(900)))))
		got := Between(lo, hi)
		if got.Cmp(lo) <= 0 || got.Cmp(hi) >= 0 {
			t.Errorf("%s is not between %s and %s", brief(got), brief(lo), brief(hi))
		}
		if most := lo.Denominator().Add(hi.Denominator()); got.Denominator().Cmp(most) > 0 {
			t.Errorf("the denominator of %s is greater than %s", brief(got), brief(most))
		}
	}
}
