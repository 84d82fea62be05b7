package wide

import (
	"math/big"
	"testing"
)

func sameList(t *testing.T, what string, got []Num, want ...Num) {
	t.Helper()
	if len(got) != len(want) {
		t.Errorf("%s has %d numbers, not %d", what, len(got), len(want))
		return
	}
	for i := range got {
		same(t, what, got[i], toBigRat(want[i]))
	}
}

func TestWhole(t *testing.T) {
	whole, factor := Whole([]Num{ratioOf(3, 4), {}, ratioOf(-9, 10), Int(6)})
	sameList(t, "Whole", whole, Int(5), Num{}, Int(-6), Int(40))
	same(t, "its factor", factor, big.NewRat(3, 20))
	whole, factor = Whole([]Num{ratioOf(-7, 3)})
	sameList(t, "Whole of one number", whole, Int(-1))
	same(t, "its factor", factor, big.NewRat(7, 3))
	whole, factor = Whole([]Num{{}, {}})
	sameList(t, "Whole of zeros", whole, Num{}, Num{})
	same(t, "its factor", factor, new(big.Rat))
	whole, _ = Whole(nil)
	sameList(t, "Whole of nothing", whole)
}

func TestWholeOfLongNumbers(t *testing.T) {
	s := source(22)
	for range 300 {
		numbers := []Num{fromBigRat(s.ratio(3)), fromBigRat(s.small()), fromBigRat(s.ratio(2)), fromBigRat(s.small())}
		whole, factor := Whole(numbers)
		content := Num{}
		for i, x := range whole {
			if x.Denominator().Cmp(Int(1)) != 0 || x.Mul(factor).Cmp(numbers[i]) != 0 {
				t.Errorf("%s is %s times %s", brief(numbers[i]), brief(x), brief(factor))
			}
			content = GCD(content, x)
		}
		if !content.IsZero() && (content.Cmp(Int(1)) != 0 || factor.Sign() != 1) {
			t.Errorf("the integers have the factor %s in common, and the other factor is %s", brief(content), brief(factor))
		}
	}
}

func TestPrimitive(t *testing.T) {
	rest, content := Primitive([]Num{Int(-6), {}, Int(15)})
	sameList(t, "Primitive", rest, Int(-2), Num{}, Int(5))
	same(t, "its factor", content, big.NewRat(3, 1))
	rest, content = Primitive([]Num{{}, Int(-4)})
	sameList(t, "Primitive of one number", rest, Num{}, Int(-1))
	same(t, "its factor", content, big.NewRat(4, 1))
	rest, content = Primitive([]Num{{}})
	sameList(t, "Primitive of zero", rest, Num{})
	same(t, "its factor", content, new(big.Rat))
}
