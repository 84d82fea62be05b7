// Package layers has no code of its own. Its tests compile only if every layer has the functions of its chapter with their signatures.
package layers_test

import (
	"testing"

	"isochrone/api"
	"isochrone/axiom"
	"isochrone/diff"
	"isochrone/enclose"
	"isochrone/game"
	"isochrone/ideal"
	"isochrone/invariant"
	"isochrone/linear"
	"isochrone/model"
	"isochrone/monitor"
	"isochrone/nat"
	"isochrone/onevar"
	"isochrone/poly"
	"isochrone/proof"
	"isochrone/rat"
	"isochrone/refine"
	"isochrone/rename"
	"isochrone/replay"
	"isochrone/root"
	"isochrone/run"
	"isochrone/seek"
	"isochrone/solve"
	"isochrone/square"
	"isochrone/state"
	"isochrone/static"
	"isochrone/subst"
	"isochrone/tactic"
	"isochrone/text"
	"isochrone/tree"
	"isochrone/whole"
)

var (
	_ func(a []uint32) bool                            = nat.Valid
	_ func(n uint64) []uint32                          = nat.From
	_ func(a, b []uint32) (int, api.Errno)             = nat.Cmp
	_ func(a, b []uint32) ([]uint32, api.Errno)        = nat.Add
	_ func(a, b []uint32) ([]uint32, api.Errno)        = nat.Sub
	_ func(a, b []uint32) ([]uint32, api.Errno)        = nat.Mul
	_ func(a, b []uint32) (q, r []uint32, e api.Errno) = nat.DivMod
	_ func(a, b []uint32) ([]uint32, api.Errno)        = nat.GCD
	_ func(a []uint32, n int) ([]uint32, api.Errno)    = nat.Pow
	_ func(a []uint32, n int) ([]uint32, api.Errno)    = nat.Shift
	_ func(a []uint32) (int, api.Errno)                = nat.Bits
	_ func(a []uint32) ([]uint32, api.Errno)           = nat.Root
	_ func(a []uint32) (string, api.Errno)             = nat.Text
	_ func(s string) ([]uint32, api.Errno)             = nat.Parse
)

var (
	_ func(a api.Rat) bool                                   = rat.Valid
	_ func(n int64) api.Rat                                  = rat.From
	_ func(neg bool, num, den []uint32) (api.Rat, api.Errno) = rat.Make
	_ func(a, b api.Rat) (int, api.Errno)                    = rat.Cmp
	_ func(a api.Rat) (int, api.Errno)                       = rat.Sign
	_ func(a, b api.Rat) (api.Rat, api.Errno)                = rat.Add
	_ func(a, b api.Rat) (api.Rat, api.Errno)                = rat.Sub
	_ func(a, b api.Rat) (api.Rat, api.Errno)                = rat.Mul
	_ func(a, b api.Rat) (api.Rat, api.Errno)                = rat.Div
	_ func(a api.Rat) (api.Rat, api.Errno)                   = rat.Neg
	_ func(a api.Rat, n int) (api.Rat, api.Errno)            = rat.Pow
	_ func(a api.Rat) (api.Rat, api.Errno)                   = rat.Floor
	_ func(a api.Rat, k int) (api.Rat, api.Errno)            = rat.Down
	_ func(a api.Rat, k int) (api.Rat, api.Errno)            = rat.Up
	_ func(a, b api.Rat) (api.Rat, api.Errno)                = rat.Mid
	_ func(a, b api.Rat) (api.Rat, api.Errno)                = rat.Simplest
	_ func(a api.Rat) (string, api.Errno)                    = rat.Text
	_ func(s string) (api.Rat, api.Errno)                    = rat.Parse
)

var (
	_ func(p api.Poly) bool                                     = poly.Valid
	_ func(n int, c api.Rat) (api.Poly, api.Errno)              = poly.Const
	_ func(n, i int) (api.Poly, api.Errno)                      = poly.Var
	_ func(p, q api.Poly) (api.Poly, api.Errno)                 = poly.Add
	_ func(p, q api.Poly) (api.Poly, api.Errno)                 = poly.Sub
	_ func(p, q api.Poly) (api.Poly, api.Errno)                 = poly.Mul
	_ func(p api.Poly, c api.Rat) (api.Poly, api.Errno)         = poly.Scale
	_ func(p api.Poly, k int) (api.Poly, api.Errno)             = poly.Pow
	_ func(p api.Poly) (int, api.Errno)                         = poly.Degree
	_ func(p api.Poly, i int) (int, api.Errno)                  = poly.DegreeIn
	_ func(p api.Poly, i, k int) (api.Poly, api.Errno)          = poly.Coef
	_ func(p api.Poly, i int) (api.Poly, api.Errno)             = poly.Deriv
	_ func(p api.Poly, at []api.Rat) (api.Rat, api.Errno)       = poly.Eval
	_ func(p api.Poly, i int, q api.Poly) (api.Poly, api.Errno) = poly.Subst
	_ func(p, q api.Poly) (api.Poly, api.Errno)                 = poly.Divide
	_ func(p, q api.Poly) (bool, api.Errno)                     = poly.Equal
	_ func(p api.Poly) (string, api.Errno)                      = poly.Text
)

var (
	_ func(c []api.Rat) bool                             = root.Valid
	_ func(r api.Root) bool                              = root.ValidRoot
	_ func(c []api.Rat, x api.Rat) (api.Rat, api.Errno)  = root.Eval
	_ func(a, b []api.Rat) ([]api.Rat, api.Errno)        = root.Add
	_ func(a, b []api.Rat) ([]api.Rat, api.Errno)        = root.Mul
	_ func(a, b []api.Rat) (q, r []api.Rat, e api.Errno) = root.DivMod
	_ func(a, b []api.Rat) ([]api.Rat, api.Errno)        = root.GCD
	_ func(c []api.Rat) ([]api.Rat, api.Errno)           = root.Deriv
	_ func(c []api.Rat) ([]api.Rat, api.Errno)           = root.SquareFree
	_ func(c []api.Rat) (api.Rat, api.Errno)             = root.Bound
	_ func(c []api.Rat, lo, hi api.Rat) (int, api.Errno) = root.Count
	_ func(c []api.Rat) ([]api.Root, api.Errno)          = root.Isolate
	_ func(r api.Root) (api.Root, api.Errno)             = root.Halve
	_ func(c []api.Rat, r api.Root) (int, api.Errno)     = root.Sign
	_ func(a, b api.Root) (int, api.Errno)               = root.Cmp
	_ func(x api.Rat) (api.Root, api.Errno)              = root.Rational
	_ func(a, b api.Root) (api.Rat, api.Errno)           = root.Between
)

var (
	_ func(n int, lines []api.Line) api.Errno                                             = linear.Check
	_ func(n int, lines []api.Line, point []api.Rat) (bool, api.Errno)                    = linear.Holds
	_ func(n int, lines []api.Line) (point []api.Rat, refutation []api.Rat, e api.Errno)  = linear.Solve
	_ func(n int, lines []api.Line, refutation []api.Rat) (bool, api.Errno)               = linear.Refutes
	_ func(n int, lines []api.Line, coefs []api.Rat) (kind int, sup api.Rat, e api.Errno) = linear.Max
	_ func(n int, lines []api.Line, i int) ([]api.Line, api.Errno)                        = linear.Project
	_ func(n int, line api.Line) (string, api.Errno)                                      = linear.Text
)

var (
	_ func(gens []api.Poly) ([]api.Poly, api.Errno)                  = ideal.Basis
	_ func(p api.Poly, gens []api.Poly) (api.Poly, api.Errno)        = ideal.Reduce
	_ func(p api.Poly, gens []api.Poly) (bool, api.Errno)            = ideal.Member
	_ func(p api.Poly, gens []api.Poly) ([]api.Poly, api.Errno)      = ideal.Cofactors
	_ func(p api.Poly, gens, cofactors []api.Poly) (bool, api.Errno) = ideal.Checks
	_ func(a, b []api.Poly) (bool, api.Errno)                        = ideal.Same
	_ func(gens []api.Poly, k int) ([]api.Poly, api.Errno)           = ideal.Eliminate
	_ func(p api.Poly, gens []api.Poly, most int) (int, api.Errno)   = ideal.Power
)

var (
	_ func(squares []api.Square, n int) (api.Poly, api.Errno)                 = square.Sum
	_ func(hyps []api.Claim, goal api.Claim, cert api.Cert) (bool, api.Errno) = square.Proves
	_ func(c api.Claim, at []api.Rat) (bool, api.Errno)                       = square.Holds
	_ func(p api.Poly) (squares []api.Square, point []api.Rat, e api.Errno)   = square.Quadratic
	_ func(hyps []api.Claim, goal api.Claim) (api.Cert, api.Errno)            = square.Implied
)

var (
	_ func(s string) bool                                               = tree.Name
	_ func(op int) int                                                  = tree.Sort
	_ func(n api.Node, sort int) api.Errno                              = tree.Check
	_ func(n api.Node) int                                              = tree.Size
	_ func(n api.Node) int                                              = tree.Levels
	_ func(a, b api.Node) bool                                          = tree.Equal
	_ func(a, b api.Node) int                                           = tree.Compare
	_ func(n api.Node, path []int) (api.Node, api.Errno)                = tree.At
	_ func(n api.Node, path []int, with api.Node) (api.Node, api.Errno) = tree.Replace
	_ func(n api.Node) ([][]int, api.Errno)                             = tree.Paths
	_ func(n, part api.Node) ([][]int, api.Errno)                       = tree.Find
)

var (
	_ func(s string, sort int) (n api.Node, at int, e api.Errno) = text.Parse
	_ func(n api.Node) (string, api.Errno)                       = text.Print
	_ func(s string, sort int) (string, api.Errno)               = text.Clean
)

var (
	_ func(n api.Node) (api.Names, api.Errno)       = static.Free
	_ func(n api.Node) (api.Names, api.Errno)       = static.Bound
	_ func(n api.Node) (api.Names, api.Errno)       = static.Must
	_ func(n api.Node) ([]api.Node, api.Errno)      = static.Symbols
	_ func(n api.Node) (bool, api.Errno)            = static.Games
	_ func(n api.Node, path []int) (int, api.Errno) = static.Polarity
	_ func(s api.Names) bool                        = static.Valid
	_ func(s api.Names, v string) bool              = static.Has
	_ func(a, b api.Names) (api.Names, api.Errno)   = static.Union
	_ func(a, b api.Names) (api.Names, api.Errno)   = static.Meet
	_ func(a, b api.Names) (api.Names, api.Errno)   = static.Minus
	_ func(a, b api.Names) (bool, api.Errno)        = static.Disjoint
)

var (
	_ func(s api.State) bool                                                = state.Valid
	_ func(s api.State, name string) (api.Rat, api.Errno)                   = state.Get
	_ func(s api.State, name string, v api.Rat) (api.State, api.Errno)      = state.Set
	_ func(interp []api.Pair) api.Errno                                     = state.Check
	_ func(t api.Node, s api.State, interp []api.Pair) (api.Rat, api.Errno) = state.Value
	_ func(f api.Node, s api.State, interp []api.Pair) (bool, api.Errno)    = state.Truth
	_ func(a, b api.State, on api.Names) (bool, api.Errno)                  = state.Agree
	_ func(s api.State) (string, api.Errno)                                 = state.Text
	_ func(text string) (api.State, api.Errno)                              = state.Parse
)

var (
	_ func(f api.Node, x string) api.Errno                     = onevar.Check
	_ func(t api.Node, x string) ([]api.Rat, api.Errno)        = onevar.Expand
	_ func(f api.Node, x string, r api.Root) (bool, api.Errno) = onevar.TruthAt
	_ func(f api.Node, x string) ([]api.Root, api.Errno)       = onevar.Critical
	_ func(f api.Node, x string) ([]api.Span, api.Errno)       = onevar.Solution
	_ func(f api.Node, x string) (bool, api.Root, api.Errno)   = onevar.All
	_ func(f api.Node, x string) (bool, api.Root, api.Errno)   = onevar.Some
	_ func(f, g api.Node, x string) (bool, api.Errno)          = onevar.Equivalent
)

var (
	_ func(n api.Node) (api.Node, api.Errno)                     = diff.Of
	_ func(n api.Node) (api.Node, api.Errno)                     = diff.Push
	_ func(n, flow api.Node) (api.Node, api.Errno)               = diff.Lie
	_ func(t api.Node, vars []string) (api.Poly, api.Errno)      = diff.Expand
	_ func(p api.Poly, vars []string) (api.Node, api.Errno)      = diff.Build
	_ func(a, b api.Node) (bool, api.Errno)                      = diff.Same
	_ func(flow api.Node, vars []string) ([]api.Poly, api.Errno) = diff.Field
)

var (
	_ func(flow api.Node) api.Errno                                           = solve.Check
	_ func(flow api.Node, s api.State) ([]api.Curve, api.Errno)               = solve.Curves
	_ func(flow api.Node, s api.State, t api.Rat) (api.State, api.Errno)      = solve.After
	_ func(f, flow api.Node, s api.State) (api.Node, api.Errno)               = solve.Along
	_ func(flow api.Node, s api.State, t api.Rat) (bool, api.Errno)           = solve.Stays
	_ func(flow api.Node, s api.State) (kind int, when api.Root, e api.Errno) = solve.Leaves
	_ func(f, flow api.Node, s api.State) (bool, api.Root, api.Errno)         = solve.Always
)

var (
	_ func(p api.Poly, field []api.Poly) (api.Poly, api.Errno)                                     = invariant.Lie
	_ func(field []api.Poly, domain []api.Claim) api.Errno                                         = invariant.Check
	_ func(field []api.Poly, domain []api.Claim, claim api.Claim, cert api.Cert) (bool, api.Errno) = invariant.Proves
	_ func(cert api.Cert) ([]api.Claim, api.Errno)                                                 = invariant.Needs
	_ func(field []api.Poly, claims []api.Claim, cert api.Cert) (bool, api.Errno)                  = invariant.System
	_ func(field []api.Poly, domain []api.Claim, claim api.Claim) (api.Cert, api.Errno)            = invariant.Find
	_ func(field []api.Poly, polys []api.Poly) (api.Cert, api.Errno)                               = invariant.Closes
	_ func(field []api.Poly, v api.Poly, cert api.Cert) (bool, api.Errno)                          = invariant.Lyapunov
)

var (
	_ func(prog api.Node) api.Errno                                                                                             = run.Check
	_ func(prog api.Node, s api.State, script []api.Pick, interp []api.Pair) (end api.State, used int, ended bool, e api.Errno) = run.Run
	_ func(prog api.Node, s api.State, script []api.Pick, interp []api.Pair) ([]api.State, api.Errno)                           = run.Trace
	_ func(f api.Node, s api.State, script []api.Pick, interp []api.Pair) (bool, api.Errno)                                     = run.Refutes
	_ func(f api.Node, s api.State, script []api.Pick, interp []api.Pair) (bool, api.Errno)                                     = run.Witness
	_ func(prog api.Node, s api.State, vals []api.Rat, turns int, interp []api.Pair) ([]api.State, api.Errno)                   = run.Ends
)

var (
	_ func(pairs []api.Pair) api.Errno                                       = subst.Check
	_ func(n api.Node, pairs []api.Pair) (r api.Node, at []int, e api.Errno) = subst.Apply
	_ func(first, second []api.Pair) ([]api.Pair, api.Errno)                 = subst.Compose
	_ func(pattern, n api.Node) ([]api.Pair, api.Errno)                      = subst.Match
)

var (
	_ func(n api.Node, x, y string) (api.Node, api.Errno)          = rename.Uniform
	_ func(n api.Node, path []int, y string) (api.Node, api.Errno) = rename.Bound
	_ func(n api.Node, base string) (string, api.Errno)            = rename.Fresh
	_ func(a, b api.Node) (bool, api.Errno)                        = rename.Same
)

var (
	_ func() []string                           = axiom.Names
	_ func(name string) (string, api.Errno)     = axiom.Text
	_ func(name string) (api.Node, api.Errno)   = axiom.Get
	_ func(name string) ([]api.Node, api.Errno) = axiom.Uses
)

var (
	_ func(p api.Proof, library []api.Lemma) (f api.Node, at []int, e api.Errno)      = proof.Conclude
	_ func(p api.Proof, f api.Node, library []api.Lemma) (at []int, e api.Errno)      = proof.Check
	_ func(f api.Node) (bool, api.Errno)                                              = proof.Taut
	_ func(f api.Node) (hyps []api.Claim, goal api.Claim, vars []string, e api.Errno) = proof.Arith
	_ func(p api.Proof) int                                                           = proof.Size
	_ func(p api.Proof, path []int) (api.Proof, api.Errno)                            = proof.At
	_ func(p api.Proof, path []int, with api.Proof) (api.Proof, api.Errno)            = proof.Replace
	_ func(p api.Proof) (string, api.Errno)                                           = proof.Sum
	_ func(p api.Proof) (string, api.Errno)                                           = proof.Text
	_ func(s string) (api.Proof, api.Errno)                                           = proof.Parse
)

var (
	_ func(t api.Tactic) api.Errno                                                                      = tactic.Check
	_ func(t api.Tactic, goal api.Node, library []api.Lemma) ([]api.Node, api.Errno)                    = tactic.Goals
	_ func(t api.Tactic, goal api.Node, library []api.Lemma) (api.Proof, api.Errno)                     = tactic.Prove
	_ func(t api.Tactic, goal api.Node, library []api.Lemma, proofs []api.Proof) (api.Proof, api.Errno) = tactic.Fill
	_ func(t api.Tactic) (string, api.Errno)                                                            = tactic.Text
	_ func(s string) (api.Tactic, api.Errno)                                                            = tactic.Parse
)

var (
	_ func(a, b api.Proof) bool                                                                     = replay.Equal
	_ func(p api.Proof) ([]api.Step, api.Errno)                                                     = replay.Record
	_ func(steps []api.Step) (api.Proof, api.Errno)                                                 = replay.Build
	_ func(steps []api.Step, library []api.Lemma) (conclusions []api.Node, failed int, e api.Errno) = replay.Replay
	_ func(steps []api.Step, i int, what api.Proof) ([]api.Step, api.Errno)                         = replay.Change
	_ func(steps []api.Step, i int) ([]int, api.Errno)                                              = replay.Depends
	_ func(a, b api.Proof) ([]api.Edit, api.Errno)                                                  = replay.Diff
	_ func(p api.Proof, edits []api.Edit) (api.Proof, api.Errno)                                    = replay.Patch
	_ func(p api.Proof) ([]string, api.Errno)                                                       = replay.Lemmas
)

var (
	_ func(g api.Game) api.Errno                                                        = game.Check
	_ func(g api.Game) ([]int, api.Errno)                                               = game.Ranks
	_ func(g api.Game, player int) ([]bool, api.Errno)                                  = game.Wins
	_ func(g api.Game, player int) ([]int, api.Errno)                                   = game.Strategy
	_ func(g api.Game, player int, strategy []int, from int) (bool, api.Errno)          = game.Beats
	_ func(g api.Game, zero, one []int, from int) (path []int, winner int, e api.Errno) = game.Play
	_ func(g api.Game) ([]bool, api.Errno)                                              = game.Safe
	_ func(g api.Game) (api.Game, []int, api.Errno)                                     = game.Reduce
	_ func(prog api.Node, s api.State, q api.Node, vals []api.Rat) (bool, api.Errno)    = game.Program
)

var (
	_ func(m api.Model) (part int, e api.Errno)                                  = model.Check
	_ func(n api.Node, defs []api.Pair) (api.Node, api.Errno)                    = model.Expand
	_ func(m api.Model, name string) (api.Node, api.Errno)                       = model.Formula
	_ func(m api.Model, a, b, name string) (api.Model, api.Errno)                = model.Compose
	_ func(m api.Model, name, input string, t api.Node) (api.Model, api.Errno)   = model.Connect
	_ func(m api.Model, name, clock string, most api.Rat) (api.Model, api.Errno) = model.Timed
	_ func(m api.Model) (string, api.Errno)                                      = model.Text
	_ func(s string) (api.Model, api.Errno)                                      = model.Parse
)

var (
	_ func(r api.Refine, library []api.Lemma) (a, b api.Node, at []int, e api.Errno) = refine.Conclude
	_ func(r api.Refine) int                                                         = refine.Size
	_ func(a, b api.Refine) (api.Refine, api.Errno)                                  = refine.Alt
	_ func(a, b api.Node, depth int) (api.Refine, api.Errno)                         = refine.Search
)

var (
	_ func(ctrl api.Node, watched []string) api.Errno                                                       = monitor.Check
	_ func(ctrl api.Node, watched []string) (api.Node, api.Errno)                                           = monitor.Make
	_ func(ctrl api.Node, watched []string, before, after api.State) (bool, api.Errno)                      = monitor.Joins
	_ func(f api.Node) ([]api.Code, api.Errno)                                                              = monitor.Compile
	_ func(code []api.Code, before, after api.State) (bool, api.Errno)                                      = monitor.Exec
	_ func(code []api.Code, names []string, spans []api.Interval) (int, api.Errno)                          = monitor.Ranges
	_ func(ctrl api.Node, watched []string, before, after, fallback api.State) (api.State, bool, api.Errno) = monitor.Guard
)

var (
	_ func(b []api.Interval) bool                                                                            = enclose.Valid
	_ func(a, b api.Interval) (api.Interval, api.Errno)                                                      = enclose.Add
	_ func(a, b api.Interval) (api.Interval, api.Errno)                                                      = enclose.Mul
	_ func(a api.Interval, n int) (api.Interval, api.Errno)                                                  = enclose.Pow
	_ func(a api.Interval, k int) (api.Interval, api.Errno)                                                  = enclose.Round
	_ func(p api.Poly, b []api.Interval) (api.Interval, api.Errno)                                           = enclose.Range
	_ func(b []api.Interval, at []api.Rat) (bool, api.Errno)                                                 = enclose.Contains
	_ func(a, b []api.Interval) (bool, api.Errno)                                                            = enclose.Inside
	_ func(field []api.Poly, b, guess []api.Interval, t api.Rat) (bool, api.Errno)                           = enclose.Picard
	_ func(field []api.Poly, b []api.Interval, times []api.Rat) (during, ends [][]api.Interval, e api.Errno) = enclose.Steps
	_ func(field []api.Poly, order int) ([][]api.Poly, api.Errno)                                            = enclose.Taylor
	_ func(p api.Poly, during, ends [][]api.Interval) (first int, sure bool, e api.Errno)                    = enclose.Event
)

var (
	_ func(field []api.Poly, d int) ([]api.Poly, api.Errno)                                  = seek.Integrals
	_ func(maps []api.Poly, d int) ([]api.Poly, api.Errno)                                   = seek.Preserved
	_ func(polys []api.Poly, at []api.Rat) ([]api.Claim, api.Errno)                          = seek.Levels
	_ func(f api.Node, s api.State, vals []api.Rat, turns int) ([]api.Pick, bool, api.Errno) = seek.Script
	_ func(f api.Node, names []string, vals []api.Rat) (api.State, bool, api.Errno)          = seek.Point
	_ func(f api.Node, s api.State, script []api.Pick) ([]api.Pick, api.Errno)               = seek.Shrink
)

var (
	_ func(s string) (items []api.Item, at int, e api.Errno)                    = whole.Parse
	_ func(items []api.Item) (string, api.Errno)                                = whole.Text
	_ func(files []api.File) (library []api.Lemma, file, item int, e api.Errno) = whole.Check
	_ func(files []api.File) ([]api.File, api.Errno)                            = whole.Expand
	_ func(files []api.File, name string) ([]string, api.Errno)                 = whole.Uses
	_ func(files []api.File, name string) (api.Proof, api.Errno)                = whole.Inline
	_ func(name string) (api.File, api.Errno)                                   = whole.Example
)

func TestLimits(t *testing.T) {
	for _, c := range []struct {
		name      string
		got, want int
	}{
		{"MaxWords", api.MaxWords, 4096},
		{"MaxVars", api.MaxVars, 8},
		{"MaxDegree", api.MaxDegree, 40},
		{"MaxTerms", api.MaxTerms, 4000},
		{"MaxName", api.MaxName, 12},
		{"MaxNodes", api.MaxNodes, 4000},
		{"MaxNest", api.MaxNest, 60},
		{"MaxText", api.MaxText, 60000},
		{"MaxExp", api.MaxExp, 20},
		{"MaxLines", api.MaxLines, 40},
		{"MaxState", api.MaxState, 40},
		{"MaxPicks", api.MaxPicks, 400},
		{"MaxSteps", api.MaxSteps, 2000},
		{"MaxPairs", api.MaxPairs, 40},
		{"MaxCells", api.MaxCells, 400},
		{"MaxPlays", api.MaxPlays, 400},
		{"MaxParts", api.MaxParts, 20},
		{"MaxCode", api.MaxCode, 400},
		{"MaxEvents", api.MaxEvents, 40},
		{"MaxFiles", api.MaxFiles, 20},
	} {
		if c.got != c.want {
			t.Errorf("%s is %d, not %d", c.name, c.got, c.want)
		}
	}
}

func TestErrors(t *testing.T) {
	for _, c := range []struct {
		name string
		got  api.Errno
		want int
	}{
		{"OK", api.OK, 0},
		{"ErrRange", api.ErrRange, 1},
		{"ErrLimit", api.ErrLimit, 2},
		{"ErrForm", api.ErrForm, 3},
		{"ErrNone", api.ErrNone, 4},
		{"ErrTwice", api.ErrTwice, 5},
		{"ErrState", api.ErrState, 6},
		{"ErrZero", api.ErrZero, 20},
		{"ErrExact", api.ErrExact, 30},
		{"ErrBudget", api.ErrBudget, 60},
		{"ErrSort", api.ErrSort, 80},
		{"ErrSyntax", api.ErrSyntax, 90},
		{"ErrSymbol", api.ErrSymbol, 110},
		{"ErrModal", api.ErrModal, 111},
		{"ErrVars", api.ErrVars, 120},
		{"ErrDiff", api.ErrDiff, 130},
		{"ErrFlow", api.ErrFlow, 140},
		{"ErrCert", api.ErrCert, 150},
		{"ErrScript", api.ErrScript, 160},
		{"ErrGame", api.ErrGame, 161},
		{"ErrClash", api.ErrClash, 170},
		{"ErrFresh", api.ErrFresh, 180},
		{"ErrAxiom", api.ErrAxiom, 190},
		{"ErrRule", api.ErrRule, 200},
		{"ErrTactic", api.ErrTactic, 210},
		{"ErrReplay", api.ErrReplay, 220},
		{"ErrMove", api.ErrMove, 230},
		{"ErrModel", api.ErrModel, 240},
		{"ErrRefine", api.ErrRefine, 250},
		{"ErrMonitor", api.ErrMonitor, 260},
		{"ErrEnclose", api.ErrEnclose, 270},
		{"ErrZeno", api.ErrZeno, 271},
		{"ErrSeek", api.ErrSeek, 280},
		{"ErrProject", api.ErrProject, 290},
	} {
		if int(c.got) != c.want {
			t.Errorf("%s is %d, not %d", c.name, c.got, c.want)
		}
	}
}
