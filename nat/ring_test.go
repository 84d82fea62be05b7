package nat_test

import (
	"math"
	"math/big"
	"testing"

	"isochrone/api"
	"isochrone/nat"
)

func TestAdd(t *testing.T) {
	for _, c := range []struct {
		a, b, want []uint32
		e          api.Errno
	}{
		{nil, nil, nil, api.OK}, {nil, []uint32{7}, []uint32{7}, api.OK}, {[]uint32{7}, nil, []uint32{7}, api.OK},
		{[]uint32{2}, []uint32{3}, []uint32{5}, api.OK}, {ones(1), []uint32{1}, []uint32{0, 1}, api.OK},
		{ones(1), ones(1), []uint32{0xfffffffe, 1}, api.OK}, {[]uint32{1}, ones(3), power(96), api.OK}, {ones(3), []uint32{1}, power(96), api.OK},
		{ones(4096), nil, ones(4096), api.OK}, {ones(4096), []uint32{1}, nil, api.ErrLimit}, {[]uint32{1}, ones(4096), nil, api.ErrLimit},
		{power(131071), power(131071), nil, api.ErrLimit}, {ones(4095), []uint32{1}, power(131040), api.OK},
	} {
		got, e := nat.Add(c.a, c.b)
		same(t, "Add("+brief(c.a)+", "+brief(c.b)+")", got, e, c.want, c.e)
	}
}

func TestSub(t *testing.T) {
	for _, c := range []struct {
		a, b, want []uint32
		e          api.Errno
	}{
		{nil, nil, nil, api.OK}, {[]uint32{7}, nil, []uint32{7}, api.OK}, {[]uint32{7}, []uint32{7}, nil, api.OK}, {[]uint32{7}, []uint32{5}, []uint32{2}, api.OK},
		{[]uint32{0, 1}, []uint32{1}, ones(1), api.OK}, {power(96), []uint32{1}, ones(3), api.OK}, {[]uint32{5, 5}, []uint32{4, 5}, []uint32{1}, api.OK},
		{nil, []uint32{1}, nil, api.ErrRange}, {[]uint32{1}, []uint32{2}, nil, api.ErrRange}, {ones(1), []uint32{0, 1}, nil, api.ErrRange},
		{[]uint32{9, 1}, []uint32{0, 2}, nil, api.ErrRange}, {ones(4096), ones(4096), nil, api.OK}, {ones(4095), ones(4096), nil, api.ErrRange},
	} {
		got, e := nat.Sub(c.a, c.b)
		same(t, "Sub("+brief(c.a)+", "+brief(c.b)+")", got, e, c.want, c.e)
	}
}

func TestMul(t *testing.T) {
	for _, c := range []struct {
		a, b, want []uint32
		e          api.Errno
	}{
		{nil, nil, nil, api.OK}, {nil, []uint32{7}, nil, api.OK}, {ones(4096), nil, nil, api.OK}, {nil, ones(4096), nil, api.OK},
		{[]uint32{6}, []uint32{7}, []uint32{42}, api.OK}, {ones(1), ones(1), []uint32{1, 0xfffffffe}, api.OK},
		{ones(4096), []uint32{1}, ones(4096), api.OK}, {[]uint32{1}, ones(4096), ones(4096), api.OK},
		{power(65536), power(65535), power(131071), api.OK}, {power(65536), power(65536), nil, api.ErrLimit}, {power(131071), []uint32{2}, nil, api.ErrLimit},
		{ones(4096), ones(4096), nil, api.ErrLimit}, {ones(4096), []uint32{2}, nil, api.ErrLimit},
	} {
		got, e := nat.Mul(c.a, c.b)
		same(t, "Mul("+brief(c.a)+", "+brief(c.b)+")", got, e, c.want, c.e)
	}
	got, e := nat.Mul(ones(2048), ones(2048))
	n := toBig(ones(2048))
	same(t, "Mul of 2048 words", got, e, fromBig(n.Mul(n, n)), api.OK)
}

func TestPow(t *testing.T) {
	for _, c := range []struct {
		a    []uint32
		n    int
		want []uint32
		e    api.Errno
	}{
		{nil, 0, []uint32{1}, api.OK}, {nil, 1, nil, api.OK}, {nil, math.MaxInt, nil, api.OK}, {nil, -1, nil, api.ErrRange},
		{[]uint32{1}, 0, []uint32{1}, api.OK}, {[]uint32{1}, math.MaxInt, []uint32{1}, api.OK}, {[]uint32{1}, -1, nil, api.ErrRange}, {[]uint32{1}, math.MinInt, nil, api.ErrRange},
		{[]uint32{2}, 0, []uint32{1}, api.OK}, {[]uint32{2}, 1, []uint32{2}, api.OK}, {[]uint32{2}, 10, []uint32{1024}, api.OK}, {[]uint32{3}, 5, []uint32{243}, api.OK},
		{[]uint32{2}, 131071, power(131071), api.OK}, {[]uint32{2}, 131072, nil, api.ErrLimit}, {[]uint32{2}, math.MaxInt, nil, api.ErrLimit}, {[]uint32{2}, -1, nil, api.ErrRange},
		{[]uint32{4}, 65535, power(131070), api.OK}, {[]uint32{4}, 65536, nil, api.ErrLimit}, {[]uint32{3}, 131071, nil, api.ErrLimit},
		{ones(4096), 0, []uint32{1}, api.OK}, {ones(4096), 1, ones(4096), api.OK}, {ones(4096), 2, nil, api.ErrLimit}, {ones(4096), math.MaxInt, nil, api.ErrLimit},
		{power(65535), 2, power(131070), api.OK}, {power(65536), 2, nil, api.ErrLimit}, {ones(2049), 2, nil, api.ErrLimit},
	} {
		got, e := nat.Pow(c.a, c.n)
		same(t, "Pow("+brief(c.a)+", n)", got, e, c.want, c.e)
	}
}

// TestPowLimit finds the greatest power of each base that has at most MaxWords words.
func TestPowLimit(t *testing.T) {
	limit := toBig(power(131072))
	for _, c := range []struct {
		base uint64
		n    int
	}{{3, 82697}, {10, 39456}, {1<<32 - 1, 4096}, {1<<32 + 1, 4095}} {
		base := new(big.Int).SetUint64(c.base)
		want := new(big.Int).Exp(base, big.NewInt(int64(c.n)), nil)
		if want.Cmp(limit) >= 0 || new(big.Int).Mul(want, base).Cmp(limit) < 0 {
			t.Fatalf("%d is not the greatest exponent of %d", c.n, c.base)
		}
		got, e := nat.Pow(nat.From(c.base), c.n)
		same(t, "Pow at the limit", got, e, fromBig(want), api.OK)
		got, e = nat.Pow(nat.From(c.base), c.n+1)
		same(t, "Pow beyond the limit", got, e, nil, api.ErrLimit)
	}
}

func TestShift(t *testing.T) {
	for _, c := range []struct {
		a    []uint32
		n    int
		want []uint32
		e    api.Errno
	}{
		{nil, 0, nil, api.OK}, {nil, 5, nil, api.OK}, {nil, -5, nil, api.OK}, {nil, 200000, nil, api.OK}, {nil, -200000, nil, api.OK},
		{nil, 200001, nil, api.ErrRange}, {nil, -200001, nil, api.ErrRange}, {[]uint32{1}, 200001, nil, api.ErrRange}, {[]uint32{1}, -200001, nil, api.ErrRange},
		{[]uint32{1}, math.MaxInt, nil, api.ErrRange}, {[]uint32{1}, math.MinInt, nil, api.ErrRange},
		{[]uint32{5}, 0, []uint32{5}, api.OK}, {[]uint32{5}, 3, []uint32{40}, api.OK}, {[]uint32{5}, 32, []uint32{0, 5}, api.OK}, {[]uint32{5}, 64, []uint32{0, 0, 5}, api.OK},
		{ones(1), 1, []uint32{0xfffffffe, 1}, api.OK}, {ones(2), 33, []uint32{0, 0xfffffffe, 0xffffffff, 1}, api.OK},
		{[]uint32{40}, -3, []uint32{5}, api.OK}, {[]uint32{47}, -3, []uint32{5}, api.OK}, {[]uint32{1}, -1, nil, api.OK}, {[]uint32{9, 5}, -32, []uint32{5}, api.OK},
		{[]uint32{9, 5}, -33, []uint32{2}, api.OK}, {[]uint32{0, 1}, -1, []uint32{0x80000000}, api.OK}, {[]uint32{7, 7}, -64, nil, api.OK}, {[]uint32{7, 7}, -1000, nil, api.OK},
		{[]uint32{1}, 131071, power(131071), api.OK}, {[]uint32{1}, 131072, nil, api.ErrLimit}, {[]uint32{1}, 200000, nil, api.ErrLimit}, {[]uint32{2}, 131071, nil, api.ErrLimit},
		{ones(4096), 0, ones(4096), api.OK}, {ones(4096), 1, nil, api.ErrLimit}, {ones(4095), 32, append([]uint32{0}, ones(4095)...), api.OK}, {ones(4095), 33, nil, api.ErrLimit},
		{ones(4096), -131071, []uint32{1}, api.OK}, {ones(4096), -131072, nil, api.OK}, {ones(4096), -200000, nil, api.OK},
	} {
		got, e := nat.Shift(c.a, c.n)
		same(t, "Shift("+brief(c.a)+", n)", got, e, c.want, c.e)
	}
}

// TestRingAgainstBig compares with the numbers of the standard library.
func TestRingAgainstBig(t *testing.T) {
	s := source(1)
	for range 2000 {
		a, b := s.magnitude(s.upTo(9)), s.magnitude(s.upTo(9))
		x, y := toBig(a), toBig(b)
		if got, e := nat.Cmp(a, b); got != x.Cmp(y) || e != api.OK {
			t.Errorf("Cmp(%s, %s) is %d, %d", brief(a), brief(b), got, e)
		}
		got, e := nat.Add(a, b)
		same(t, "Add", got, e, fromBig(new(big.Int).Add(x, y)), api.OK)
		got, e = nat.Mul(a, b)
		same(t, "Mul", got, e, fromBig(new(big.Int).Mul(x, y)), api.OK)
		if x.Cmp(y) >= 0 {
			got, e = nat.Sub(a, b)
			same(t, "Sub", got, e, fromBig(new(big.Int).Sub(x, y)), api.OK)
		}
		n := s.upTo(150)
		got, e = nat.Shift(a, n)
		same(t, "Shift", got, e, fromBig(new(big.Int).Lsh(x, uint(n))), api.OK)
		got, e = nat.Shift(a, -n)
		same(t, "Shift", got, e, fromBig(new(big.Int).Rsh(x, uint(n))), api.OK)
		got, e = nat.Pow(a, n%8)
		same(t, "Pow", got, e, fromBig(new(big.Int).Exp(x, big.NewInt(int64(n%8)), nil)), api.OK)
		if got, e := nat.Bits(a); got != x.BitLen() || e != api.OK {
			t.Errorf("Bits(%s) is %d, %d", brief(a), got, e)
		}
	}
}
