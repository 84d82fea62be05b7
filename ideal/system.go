package ideal

import (
	"slices"

	"isochrone/modular"
	"isochrone/wide"
)

// verdict says what came out of a search modulo powers of a prime.
type verdict int

const (
	// unsuited: the prime is one of the few ones that show nothing.
	unsuited verdict = iota
	tooLong
	found
)

const (
	// maxBits is the number of binary digits that a part of a factor may have.
	maxBits = 32 * maxWords
	// spareBits are digits of a modulus beyond those that tell short numbers apart, so that others hardly ever look like one.
	spareBits = 64
)

// system asks for the factors of columns whose multiples have a given sum, the target. It finds them modulo a prime and then, digit by digit, modulo powers of the prime.
type system struct {
	prime   wide.Num
	echelon *echelon
	// columns are those that do not depend on others modulo the prime. The other ones get the factor 0.
	columns []column
	target  []wide.Num
	// count is the number of all columns.
	count int
}

// column has the numbers of a column that are not zero.
type column struct {
	// at says which one of all columns it is.
	at      int
	entries []entry
}

// entry is an integer at a place of a column.
type entry struct {
	place  int
	number wide.Num
}

// newSystem makes columns of polynomials: each monomial has a place.
func newSystem(columns []exact, target exact, prime modular.Prime) *system {
	all := append(columns[:len(columns):len(columns)], target)
	places := placesOf(all)
	whole := wholeColumns(all, places)
	s := &system{prime: wide.Int(int(prime)), echelon: newEchelon(prime, len(places)), count: len(columns)}
	for k, entries := range whole[:s.count] {
		if s.echelon.add(s.residues(spread(entries, len(places)))) {
			s.columns = append(s.columns, column{k, entries})
		}
	}
	s.target = spread(whole[s.count], len(places))
	return s
}

// placesOf returns the monomials of polynomials, each once, in descending order.
func placesOf(all []exact) []exponents {
	var places []exponents
	for _, p := range all {
		for _, t := range p {
			places = append(places, t.exps)
		}
	}
	slices.SortFunc(places, descending)
	return slices.CompactFunc(places, slices.Equal)
}

func descending(a, b exponents) int {
	return b.graded(a)
}

// wholeColumns returns the polynomials as columns, all of them times the same number, so that the numbers are integers.
func wholeColumns(all []exact, places []exponents) [][]entry {
	var numbers []wide.Num
	for _, p := range all {
		for _, t := range p {
			numbers = append(numbers, t.coef)
		}
	}
	numbers, _ = wide.Whole(numbers)
	columns := make([][]entry, len(all))
	for k, p := range all {
		for i, t := range p {
			place, _ := slices.BinarySearchFunc(places, t.exps, descending)
			columns[k] = append(columns[k], entry{place, numbers[i]})
		}
		numbers = numbers[len(p):]
	}
	return columns
}

// spread returns the numbers of all places.
func spread(entries []entry, places int) []wide.Num {
	numbers := make([]wide.Num, places)
	for _, x := range entries {
		numbers[x.place] = x.number
	}
	return numbers
}

// residues returns what integers leave modulo the prime.
func (s *system) residues(numbers []wide.Num) []uint64 {
	list := make([]uint64, len(numbers))
	for i, x := range numbers {
		list[i], _ = x.Residues(uint64(s.echelon.Prime))
	}
	return list
}

// digits returns the factors modulo the prime, or false if there are none.
func (s *system) digits(sum []wide.Num) ([]wide.Num, bool) {
	factors, ok := s.echelon.solve(s.residues(sum))
	numbers := make([]wide.Num, len(factors))
	for i, x := range factors {
		numbers[i] = wide.Int(int(x))
	}
	return numbers, ok
}

// isSolvable reports whether there are factors modulo the prime.
func (s *system) isSolvable() bool {
	_, ok := s.digits(s.target)
	return ok
}

// solve returns the factors of all columns. If there are none, or if they need a column that depends on others modulo the prime alone, there are none either modulo a power of the prime that is not high, and the prime is unsuited.
func (s *system) solve() ([]wide.Num, verdict) {
	modulus, rest := wide.Int(1), s.target
	var rows [][]wide.Num
	for try := 2; ; {
		row, ok := s.digits(rest)
		if !ok {
			return nil, unsuited
		}
		rows = append(rows, row)
		modulus = modulus.Mul(s.prime)
		bits := min(maxBits, (modulus.Bits()-1-spareBits)/2)
		if len(rows) == try || bits == maxBits {
			if factors, ok := s.recovered(rows, modulus, bits); ok {
				return s.allFactors(factors), found
			}
			try *= 2
		}
		if bits == maxBits {
			return nil, tooLong
		}
		rest = s.without(rest, row)
		for i, x := range rest {
			rest[i], _ = x.DivMod(s.prime)
		}
	}
}

// without returns what is left of a sum without multiples of the columns.
func (s *system) without(sum, factors []wide.Num) []wide.Num {
	rest := slices.Clone(sum)
	for i, c := range s.columns {
		factor := factors[i].Neg()
		if factor.IsZero() {
			continue
		}
		for _, x := range c.entries {
			rest[x.place] = rest[x.place].Add(x.number.Mul(factor))
		}
	}
	return rest
}

// recovered returns the factors if they have at most so many binary digits in their parts and solve the system. The rows have their digits modulo the modulus, the lowest first.
func (s *system) recovered(rows [][]wide.Num, modulus wide.Num, bits int) ([]wide.Num, bool) {
	factors := make([]wide.Num, len(s.columns))
	for i := range factors {
		var value wide.Num
		for _, row := range slices.Backward(rows) {
			value = value.Mul(s.prime).Add(row[i])
		}
		factor, ok := wide.Recover(value, modulus, bits)
		if !ok {
			return nil, false
		}
		factors[i] = factor
	}
	rest := s.without(s.target, factors)
	return factors, !slices.ContainsFunc(rest, func(x wide.Num) bool { return !x.IsZero() })
}

// allFactors returns the factors of all columns.
func (s *system) allFactors(factors []wide.Num) []wide.Num {
	all := make([]wide.Num, s.count)
	for i, c := range s.columns {
		all[c.at] = factors[i]
	}
	return all
}
