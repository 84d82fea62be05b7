package wide

import (
	"math/big"
	"testing"
)

// prime61 is a prime number; moduli are its powers.
const prime61 = 1<<61 - 1

// primePower returns the least power of the prime that is at least 2^bits.
func primePower(bits int) *big.Int {
	m := big.NewInt(prime61)
	for m.BitLen() <= bits {
		m.Mul(m, big.NewInt(prime61))
	}
	return m
}

// modulo returns the integer from 0 to m-1 that is equal to r modulo m, or false if there is none.
func modulo(r *big.Rat, m *big.Int) (*big.Int, bool) {
	inverse := new(big.Int).ModInverse(r.Denom(), m)
	if inverse == nil {
		return nil, false
	}
	a := inverse.Mul(inverse, r.Num())
	return a.Mod(a, m), true
}

func checkRecover(t *testing.T, r *big.Rat, m *big.Int, bits int) {
	t.Helper()
	a, ok := modulo(r, m)
	if !ok {
		return
	}
	got, found := Recover(fromInt(a), fromInt(m), bits)
	fits := r.Num().BitLen() <= bits && r.Denom().BitLen() <= bits
	if found != fits && (fits || toBigRat(got).Cmp(r) == 0) {
		t.Errorf("Recover to %d digits reports %v for %s", bits, found, brief(fromBigRat(r)))
	}
	if fits && found {
		same(t, "Recover", got, r)
	}
	if found && (toBigRat(got).Num().BitLen() > bits || toBigRat(got).Denom().BitLen() > bits) {
		t.Errorf("Recover to %d digits is %s", bits, brief(got))
	}
	if !found && !got.IsZero() {
		t.Errorf("Recover of nothing is %s", brief(got))
	}
}

func TestRecover(t *testing.T) {
	s := source(31)
	for range 3000 {
		r := s.ratio(1 + s.upTo(5))
		longest := max(r.Num().BitLen(), r.Denom().BitLen())
		for _, bits := range []int{longest - 1, longest, longest + 1, longest + s.upTo(200)} {
			if bits >= 0 {
				checkRecover(t, r, primePower(2*bits+1), bits)
			}
		}
	}
	for _, words := range []int{50, 200} {
		r := new(big.Rat).SetFrac(toBig(s.words(words)), toBig(s.words(words)))
		checkRecover(t, r, primePower(128*words+1), 64*words)
		checkRecover(t, r, primePower(128*words+1000), 64*words)
		checkRecover(t, new(big.Rat).SetInt(r.Num()), primePower(128*words+1), 64*words)
		checkRecover(t, new(big.Rat).SetFrac(big.NewInt(-1), r.Num()), primePower(128*words+1), 64*words)
	}
}

// TestRecoverAll tries all integers modulo a few small numbers, prime or not.
func TestRecoverAll(t *testing.T) {
	for _, c := range []struct{ m, bits int }{{2, 0}, {8, 1}, {9, 1}, {32, 2}, {37, 2}, {60, 2}, {128, 3}, {131, 3}, {210, 3}, {1021, 4}} {
		m, below := big.NewInt(int64(c.m)), int64(1)<<c.bits
		want := map[int64]*big.Rat{}
		for y := int64(1); y < below; y++ {
			for x := 1 - below; x < below; x++ {
				if a, ok := modulo(big.NewRat(x, y), m); ok {
					want[a.Int64()] = big.NewRat(x, y)
				}
			}
		}
		for a := range c.m {
			got, ok := Recover(Int(a), Int(c.m), c.bits)
			r, exists := want[int64(a)]
			if ok != exists {
				t.Errorf("Recover of %d modulo %d reports %v", a, c.m, ok)
			}
			if ok && exists {
				same(t, "Recover", got, r)
			}
		}
	}
}
