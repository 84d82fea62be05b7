package rat

import (
	"isochrone/api"
	"isochrone/nat"
)

// maxPlaces is the greatest number of binary places to which Down and Up round.
const maxPlaces = 4000

// Floor returns the greatest integer that is at most a.
func Floor(a api.Rat) (api.Rat, api.Errno) {
	return rounded(a, 0, false)
}

// Down returns the greatest multiple of 2^-k that is at most a, or ErrRange if k is not from 0 to maxPlaces.
func Down(a api.Rat, k int) (api.Rat, api.Errno) {
	return rounded(a, k, false)
}

// Up returns the least multiple of 2^-k that is at least a, or ErrRange if k is not from 0 to maxPlaces.
func Up(a api.Rat, k int) (api.Rat, api.Errno) {
	return rounded(a, k, true)
}

func rounded(a api.Rat, k int, up bool) (api.Rat, api.Errno) {
	if !Valid(a) {
		return api.Rat{}, api.ErrForm
	}
	if k < 0 || k > maxPlaces {
		return api.Rat{}, api.ErrRange
	}
	units, _ := nat.Shift(nat.From(1), k)
	size, rest := divide(times(a.Num, units), a.Den)
	awayFromZero := up != a.Neg
	if len(rest) > 0 && awayFromZero {
		size = plus(size, nat.From(1))
	}
	return fit(reduced(a.Neg, size, units))
}
