package root

import (
	"isochrone/api"
	"isochrone/wide"
)

// Between returns a rational number strictly between the numbers of a and b: ErrForm, then ErrRange unless that of a is less than that of b, then ErrLimit if there is none of at most MaxWords words.
func Between(a, b api.Root) (api.Rat, api.Errno) {
	x, okA := loadRoot(a)
	y, okB := loadRoot(b)
	if !okA || !okB {
		return api.Rat{}, api.ErrForm
	}
	if x.compare(y) >= 0 {
		return api.Rat{}, api.ErrRange
	}
	return storeNumber(between(x, y))
}

// between returns the simplest number strictly between a and b, with a < b. It is the simplest one in an interval around both of them, too, once this is short enough and a or b is known if it is simpler itself.
func between(a, b number) wide.Num {
	for {
		q := wide.Between(a.low(), b.high())
		num, den := q.Numerator(), q.Denominator()
		orderA, orderB := a.to(num, den), b.to(num, den)
		switch {
		case orderA < 0 && orderB > 0:
			return q
		case orderA == 0:
			a.interval = interval{num, num, den}
		case orderA > 0:
			a = a.narrowed()
		case orderB == 0:
			b.interval = interval{num, num, den}
		default:
			b = b.narrowed()
		}
	}
}
