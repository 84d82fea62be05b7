package poly

import (
	"slices"

	"isochrone/api"
	"isochrone/values"
)

// Eval returns the value of p at a point: ErrForm if p or a coordinate is not valid, then ErrRange if the point does not have a coordinate for each variable, then ErrLimit if the value needs more than MaxWords words.
func Eval(p api.Poly, at []api.Rat) (api.Rat, api.Errno) {
	if !Valid(p) || slices.ContainsFunc(at, invalidNumber) {
		return api.Rat{}, api.ErrForm
	}
	if len(at) != p.N {
		return api.Rat{}, api.ErrRange
	}
	value := values.At(p, at)
	if !value.Fits(api.MaxWords) {
		return api.Rat{}, api.ErrLimit
	}
	return value.Rat(), api.OK
}

func invalidNumber(c api.Rat) bool {
	return !validNumber(c)
}
