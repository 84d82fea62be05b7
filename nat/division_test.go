package nat_test

import (
	"math/big"
	"testing"

	"isochrone/api"
	"isochrone/nat"
)

func TestDivMod(t *testing.T) {
	for _, c := range []struct {
		a, b, q, r []uint32
		e          api.Errno
	}{
		{nil, nil, nil, nil, api.ErrZero}, {[]uint32{1}, nil, nil, nil, api.ErrZero}, {ones(4096), nil, nil, nil, api.ErrZero}, {[]uint32{1}, []uint32{}, nil, nil, api.ErrZero},
		{nil, []uint32{5}, nil, nil, api.OK}, {[]uint32{5}, []uint32{7}, nil, []uint32{5}, api.OK}, {[]uint32{7}, []uint32{7}, []uint32{1}, nil, api.OK},
		{[]uint32{23}, []uint32{7}, []uint32{3}, []uint32{2}, api.OK}, {[]uint32{23}, []uint32{1}, []uint32{23}, nil, api.OK}, {[]uint32{0, 1}, []uint32{10}, []uint32{429496729}, []uint32{6}, api.OK},
		{[]uint32{0, 0, 1}, []uint32{0, 1}, []uint32{0, 1}, nil, api.OK}, {[]uint32{9, 1}, []uint32{0, 2}, nil, []uint32{9, 1}, api.OK}, {ones(3), ones(2), []uint32{0, 1}, ones(1), api.OK},
		{ones(4096), ones(4096), []uint32{1}, nil, api.OK}, {ones(4096), ones(2048), append([]uint32{1}, power(65504)...), nil, api.OK}, {ones(4096), []uint32{1}, ones(4096), nil, api.OK},
		{ones(4095), ones(4096), nil, ones(4095), api.OK},
	} {
		q, r, e := nat.DivMod(c.a, c.b)
		same(t, "the quotient of "+brief(c.a)+" by "+brief(c.b), q, e, c.q, c.e)
		same(t, "the remainder of "+brief(c.a)+" by "+brief(c.b), r, e, c.r, c.e)
	}
}

// TestHardQuotients has dividends for which a word of the quotient is guessed too great.
func TestHardQuotients(t *testing.T) {
	for _, c := range [][2][]uint32{
		{{0, 0, 0x80000000, 0x7fffffff}, {1, 0, 0x80000000}},
		{{3, 0, 0x80000000}, {1, 0, 0x20000000}},
		{{0, 0xfffffffe, 0x80000000}, {0xffffffff, 0x80000000}},
		{{0, 0, 0, 0x80000000}, {0xffffffff, 0xffffffff, 0x80000000}},
		{{0, 0xffffffff, 0xffffffff, 0x7fffffff}, {0xffffffff, 0, 0x80000000}},
		{{0, 0, 0xffffffff, 0xffffffff, 0xfffffffe}, {0xffffffff, 0xffffffff, 0xffffffff}},
	} {
		q, r := new(big.Int).QuoRem(toBig(c[0]), toBig(c[1]), new(big.Int))
		gotQ, gotR, e := nat.DivMod(c[0], c[1])
		same(t, "the quotient of "+brief(c[0])+" by "+brief(c[1]), gotQ, e, fromBig(q), api.OK)
		same(t, "the remainder of "+brief(c[0])+" by "+brief(c[1]), gotR, e, fromBig(r), api.OK)
	}
}

func TestDivModAgainstBig(t *testing.T) {
	s := source(2)
	for range 5000 {
		a, b := s.magnitude(s.upTo(12)), s.magnitude(1+s.upTo(6))
		q, r := new(big.Int).QuoRem(toBig(a), toBig(b), new(big.Int))
		gotQ, gotR, e := nat.DivMod(a, b)
		same(t, "the quotient of "+brief(a)+" by "+brief(b), gotQ, e, fromBig(q), api.OK)
		same(t, "the remainder of "+brief(a)+" by "+brief(b), gotR, e, fromBig(r), api.OK)
	}
}

func TestGCD(t *testing.T) {
	for _, c := range []struct{ a, b, want []uint32 }{
		{nil, nil, nil}, {[]uint32{5}, nil, []uint32{5}}, {nil, []uint32{5}, []uint32{5}}, {ones(4096), nil, ones(4096)}, {nil, ones(4096), ones(4096)},
		{[]uint32{48}, []uint32{36}, []uint32{12}}, {[]uint32{36}, []uint32{48}, []uint32{12}}, {[]uint32{1}, ones(4096), []uint32{1}}, {[]uint32{17}, []uint32{13}, []uint32{1}},
		{ones(4096), ones(4096), ones(4096)}, {ones(4096), ones(2048), ones(2048)}, {ones(4096), ones(4095), ones(1)}, {ones(4096), power(131071), []uint32{1}},
		{power(131071), power(100000), power(100000)}, {power(5000), power(90), power(90)},
	} {
		got, e := nat.GCD(c.a, c.b)
		same(t, "GCD("+brief(c.a)+", "+brief(c.b)+")", got, e, c.want, api.OK)
	}
}

func TestGCDAgainstBig(t *testing.T) {
	s := source(3)
	for range 3000 {
		common := s.magnitude(s.upTo(6))
		a, _ := nat.Mul(common, s.magnitude(s.upTo(20)))
		b, _ := nat.Mul(common, s.magnitude(s.upTo(20)))
		got, e := nat.GCD(a, b)
		same(t, "GCD of "+brief(a)+" and "+brief(b), got, e, fromBig(new(big.Int).GCD(nil, nil, toBig(a), toBig(b))), api.OK)
	}
	for _, n := range []int{100, 1000, 4096} {
		a, b := s.magnitude(n), s.magnitude(n-1)
		got, e := nat.GCD(a, b)
		same(t, "GCD of long numbers", got, e, fromBig(new(big.Int).GCD(nil, nil, toBig(a), toBig(b))), api.OK)
	}
}

// TestGCDOfFibonacci has the most steps: all quotients are 1.
func TestGCDOfFibonacci(t *testing.T) {
	a, b := nat.From(1), nat.From(1)
	for range 3000 {
		sum, e := nat.Add(a, b)
		if e != api.OK {
			t.Fatalf("Add is error %d", e)
		}
		a, b = b, sum
	}
	got, e := nat.GCD(a, b)
	same(t, "GCD of neighbours", got, e, []uint32{1}, api.OK)
}

func TestRoot(t *testing.T) {
	for n := range uint64(1000) {
		got, e := nat.Root(nat.From(n))
		same(t, "Root", got, e, fromBig(new(big.Int).Sqrt(new(big.Int).SetUint64(n))), api.OK)
	}
	for _, c := range []struct{ a, want []uint32 }{
		{nil, nil}, {ones(1), []uint32{0xffff}}, {[]uint32{0, 1}, []uint32{0x10000}}, {ones(2), ones(1)}, {[]uint32{0, 0, 1}, []uint32{0, 1}},
		{[]uint32{1, 0xfffffffe}, ones(1)}, {[]uint32{0, 0xfffffffe}, []uint32{0xfffffffe}}, {power(131070), power(65535)}, {ones(4096), ones(2048)},
	} {
		got, e := nat.Root(c.a)
		same(t, "Root("+brief(c.a)+")", got, e, c.want, api.OK)
	}
}

// TestRootNearSquares has squares and their neighbours.
func TestRootNearSquares(t *testing.T) {
	s := source(4)
	for i := range 1500 {
		r := toBig(s.magnitude(1 + s.upTo(1+i%40)))
		square := new(big.Int).Mul(r, r)
		for _, d := range []int64{-1, 0, 1} {
			n := new(big.Int).Add(square, big.NewInt(d))
			got, e := nat.Root(fromBig(n))
			same(t, "Root", got, e, fromBig(new(big.Int).Sqrt(n)), api.OK)
		}
	}
}
