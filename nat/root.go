package nat

import "isochrone/api"

// Root returns the greatest number whose square is at most a.
func Root(a []uint32) ([]uint32, api.Errno) {
	if !Valid(a) {
		return nil, api.ErrForm
	}
	return root(a), api.OK
}

// root starts Newton's method above the root, with the upper half of its digits from the root of the upper half of a.
func root(a []uint32) []uint32 {
	if len(a) <= 2 {
		return From(rootShort(low(a)))
	}
	half := bitLen(a) / 4
	upper := root(shiftDown(a, 2*half))
	above := shiftUp(add(upper, From(1)), half)
	for {
		quotient, _ := divide(a, above)
		next := shiftDown(add(above, quotient), 1)
		if compare(next, above) >= 0 {
			return above
		}
		above = next
	}
}

// rootShort finds the root digit by digit; the root of n has at most 32 of them.
func rootShort(n uint64) uint64 {
	found := uint64(0)
	for digit := uint64(1) << 31; digit > 0; digit >>= 1 {
		next := found + digit
		if next*next <= n {
			found = next
		}
	}
	return found
}
