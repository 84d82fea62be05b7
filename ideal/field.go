package ideal

import (
	"isochrone/modular"
	"isochrone/wide"
)

// field has the operations on the coefficients of polynomials.
type field[C any] interface {
	plus(a, b C) C
	times(a, b C) C
	neg(a C) C
	// inverse needs a number that is not zero.
	inverse(a C) C
	isZero(a C) bool
}

type rationals struct{}

func (rationals) plus(a, b wide.Num) wide.Num  { return a.Add(b) }
func (rationals) times(a, b wide.Num) wide.Num { return a.Mul(b) }
func (rationals) neg(a wide.Num) wide.Num      { return a.Neg() }
func (rationals) inverse(a wide.Num) wide.Num  { return wide.Int(1).Quo(a) }
func (rationals) isZero(a wide.Num) bool       { return a.IsZero() }

// residues are the numbers modulo a prime.
type residues struct {
	modular.Prime
}

func (r residues) plus(a, b uint64) uint64  { return r.Plus(a, b) }
func (r residues) times(a, b uint64) uint64 { return r.Times(a, b) }
func (r residues) neg(a uint64) uint64      { return r.Neg(a) }
func (r residues) inverse(a uint64) uint64  { return r.Inverse(a) }
func (r residues) isZero(a uint64) bool     { return a == 0 }
