package square_test

import (
	"encoding/binary"
	"maps"
	"math/big"
	"slices"
	"strconv"
	"strings"
	"testing"

	"isochrone/api"
	"isochrone/square"
)

// The values of Rel.
const (
	equal   = 0
	atLeast = 1
	greater = 2
)

// source makes numbers that look random and are the same in every run.
type source uint64

func (s *source) next() uint64 {
	*s = *s*6364136223846793005 + 1442695040888963407
	return uint64(*s>>33) | uint64(*s>>1)&^0x7fffffff
}

// upTo returns a number from 0 to n.
func (s *source) upTo(n int) int {
	return int(s.next() >> 20 % uint64(n+1))
}

// small returns a small integer, often 0.
func (s *source) small() *big.Rat {
	return big.NewRat(int64(s.upTo(3)*(s.upTo(2)-1)), 1)
}

// fraction returns a number with small parts.
func (s *source) fraction() *big.Rat {
	return big.NewRat(int64(s.upTo(24)-12), int64(1+s.upTo(5)))
}

// odd returns an odd number of exactly so many words of 32 bits.
func (s *source) odd(words int) *big.Int {
	n := new(big.Int).SetBit(big.NewInt(1), 32*words-1, 1)
	for i := 1; i < 32*words-1; i++ {
		n.SetBit(n, i, uint(s.upTo(1)))
	}
	return n
}

// long returns a positive number whose parts have exactly so many words.
func (s *source) long(words int) *big.Rat {
	for {
		r := new(big.Rat).SetFrac(s.odd(words), s.odd(words))
		if r.Num().BitLen() == 32*words && r.Denom().BitLen() == 32*words {
			return r
		}
	}
}

// signed returns a number or its opposite.
func (s *source) signed(r *big.Rat) *big.Rat {
	if s.upTo(1) == 0 {
		return neg(r)
	}
	return r
}

// table returns a polynomial in n variables of a degree, with about share of ten of the monomials.
func (s *source) table(n, degree, share int, number func() *big.Rat) table {
	p := table{}
	for m := range dense(n, degree) {
		if s.upTo(9) < share {
			p.add(m, number())
		}
	}
	return p
}

func toBig(a []uint32) *big.Int {
	var digits []byte
	for _, w := range slices.Backward(a) {
		digits = binary.BigEndian.AppendUint32(digits, w)
	}
	return new(big.Int).SetBytes(digits)
}

func fromBig(n *big.Int) []uint32 {
	count := (n.BitLen() + 31) / 32
	digits := n.FillBytes(make([]byte, 4*count))
	a := make([]uint32, count)
	for i := range a {
		a[i] = binary.BigEndian.Uint32(digits[4*(count-1-i):])
	}
	return a
}

func toBigRat(a api.Rat) *big.Rat {
	r := new(big.Rat).SetFrac(toBig(a.Num), toBig(a.Den))
	if a.Neg {
		r.Neg(r)
	}
	return r
}

func fromBigRat(r *big.Rat) api.Rat {
	return api.Rat{Neg: r.Sign() < 0, Num: fromBig(r.Num()), Den: fromBig(r.Denom())}
}

// fraction makes a number of a text that math/big can read.
func fraction(text string) *big.Rat {
	r, ok := new(big.Rat).SetString(text)
	if !ok {
		panic("no number: " + text)
	}
	return r
}

func number(text string) api.Rat {
	return fromBigRat(fraction(text))
}

// numbers makes a list of a text with blanks.
func numbers(text string) []api.Rat {
	var list []api.Rat
	for _, part := range strings.Fields(text) {
		list = append(list, number(part))
	}
	return list
}

// power returns 2^n, or 1/2^-n.
func power(n int) *big.Rat {
	if n < 0 {
		return inverse(power(-n))
	}
	return new(big.Rat).SetInt(new(big.Int).Lsh(big.NewInt(1), uint(n)))
}

// most returns the greatest integer of so many words.
func most(words int) *big.Rat { return minus(power(32*words), whole(1)) }

func whole(n int) *big.Rat         { return big.NewRat(int64(n), 1) }
func neg(a *big.Rat) *big.Rat      { return new(big.Rat).Neg(a) }
func inverse(a *big.Rat) *big.Rat  { return new(big.Rat).Inv(a) }
func plus(a, b *big.Rat) *big.Rat  { return new(big.Rat).Add(a, b) }
func minus(a, b *big.Rat) *big.Rat { return new(big.Rat).Sub(a, b) }
func times(a, b *big.Rat) *big.Rat { return new(big.Rat).Mul(a, b) }

// key has the exponents of a term.
type key [api.MaxVars]int

// table is a polynomial as a table from exponents to coefficients that are not zero. Its functions are the simplest ones that there are, to compare with.
type table map[key]*big.Rat

func (p table) add(m key, c *big.Rat) {
	sum := c
	if old, ok := p[m]; ok {
		sum = plus(old, c)
	}
	p[m] = sum
	if sum.Sign() == 0 {
		delete(p, m)
	}
}

func (p table) plus(q table) table {
	sum := maps.Clone(p)
	for m, c := range q {
		sum.add(m, c)
	}
	return sum
}

func (p table) times(q table) table {
	product := table{}
	for m, c := range p {
		for k, d := range q {
			both := m
			for i := range both {
				both[i] += k[i]
			}
			product.add(both, times(c, d))
		}
	}
	return product
}

func (p table) scaled(c *big.Rat) table {
	return p.times(monomial(c))
}

func (p table) eval(at []*big.Rat) *big.Rat {
	sum := new(big.Rat)
	for m, c := range p {
		value := c
		for i, x := range at {
			for range m[i] {
				value = times(value, x)
			}
		}
		sum.Add(sum, value)
	}
	return sum
}

func (p table) equals(q table) bool {
	return len(p.plus(q.scaled(whole(-1)))) == 0
}

// poly returns the polynomial in n variables, which is not valid if it breaks a limit.
func (p table) poly(n int) api.Poly {
	order := slices.SortedFunc(maps.Keys(p), func(a, b key) int { return slices.Compare(b[:], a[:]) })
	made := api.Poly{N: n}
	for _, m := range order {
		made.Terms = append(made.Terms, api.Mono{Exps: slices.Clone(m[:n]), Coef: fromBigRat(p[m])})
	}
	return made
}

// tableOf is the opposite of poly.
func tableOf(p api.Poly) table {
	made := table{}
	for _, m := range p.Terms {
		var k key
		copy(k[:], m.Exps)
		made.add(k, toBigRat(m.Coef))
	}
	return made
}

// monomial returns a term as a table.
func monomial(c *big.Rat, exps ...int) table {
	var m key
	copy(m[:], exps)
	p := table{}
	p.add(m, c)
	return p
}

// dense returns the polynomial in n variables with all monomials of degree at most d, with the coefficient 1.
func dense(n, d int) table {
	p := table{}
	var m key
	var fill func(i, left int)
	fill = func(i, left int) {
		if i == n {
			p.add(m, whole(1))
			return
		}
		for k := range left + 1 {
			m[i] = k
			fill(i+1, left-k)
		}
		m[i] = 0
	}
	fill(0, d)
	return p
}

// parse reads terms as poly.Text writes them, in any order, with x, y, z and w for variables 0 to 3.
func parse(text string) table {
	p := table{}
	for _, part := range strings.Split(text, " + ") {
		coef, rest, _ := strings.Cut(part, "*")
		var m key
		for _, factor := range strings.Split(rest, "*") {
			if factor == "" {
				continue
			}
			name, exponent, found := strings.Cut(factor, "^")
			if !found {
				exponent = "1"
			}
			i := strings.Index("xyzw", name)
			if name[0] == 'x' && len(name) > 1 {
				i, _ = strconv.Atoi(name[1:])
			}
			k, e := strconv.Atoi(exponent)
			if i < 0 || e != nil {
				panic("no term: " + part)
			}
			m[i] += k
		}
		p.add(m, fraction(coef))
	}
	return p
}

// read makes a polynomial in n variables of a text.
func read(n int, text string) api.Poly {
	return parse(text).poly(n)
}

// claim makes a claim in n variables of a polynomial, "=", ">=" or ">", and 0.
func claim(n int, text string) api.Claim {
	for rel, sign := range []string{" = 0", " >= 0", " > 0"} {
		if left, found := strings.CutSuffix(text, sign); found {
			return api.Claim{Poly: read(n, left), Rel: rel}
		}
	}
	panic("no claim: " + text)
}

func claims(n int, texts ...string) []api.Claim {
	var list []api.Claim
	for _, text := range texts {
		list = append(list, claim(n, text))
	}
	return list
}

// sq makes a square in n variables.
func sq(n int, weight, text string) api.Square {
	return api.Square{Weight: number(weight), Poly: read(n, text)}
}

func squares(n int, texts ...string) []api.Square {
	var list []api.Square
	for _, text := range texts {
		weight, p, _ := strings.Cut(text, " ")
		list = append(list, sq(n, weight, p))
	}
	return list
}

// sum returns the polynomial of a sum of squares.
func sum(list []api.Square) table {
	total := table{}
	for _, s := range list {
		p := tableOf(s.Poly)
		total = total.plus(p.times(p).scaled(toBigRat(s.Weight)))
	}
	return total
}

// kind1 makes a certificate of kind 1.
func kind1(c string, own []api.Square, kids ...api.Cert) api.Cert {
	return api.Cert{Kind: 1, Nums: numbers(c), Squares: own, Kids: kids}
}

// by makes a certificate of kind 0 for a hypothesis with Rel 0.
func by(n int, text string) api.Cert {
	return api.Cert{Polys: []api.Poly{read(n, text)}}
}

// bySquares makes a certificate of kind 0 for a hypothesis with Rel 1 or 2.
func bySquares(n int, texts ...string) api.Cert {
	return api.Cert{Squares: squares(n, texts...)}
}

// certifies reports whether the polynomials of a certificate add up to what it should prove, and whether that proves a goal with its Rel: the chapter's rules, word by word, without its limits.
func certifies(hyps []api.Claim, goal table, rel int, cert api.Cert) bool {
	switch cert.Kind {
	case 2:
		return rel < greater && len(cert.Kids) == 2 && cert.Kids[0].Kind == 1 && cert.Kids[1].Kind == 1 && certifies(hyps, goal, atLeast, cert.Kids[0]) && certifies(hyps, goal.scaled(whole(-1)), atLeast, cert.Kids[1])
	case 3:
		return len(cert.Kids) == 1 && cert.Kids[0].Kind == 1 && (certifies(hyps, monomial(whole(-1)), atLeast, cert.Kids[0]) || certifies(hyps, table{}, greater, cert.Kids[0]))
	case 1:
		if len(cert.Nums) != 1 || len(cert.Kids) != len(hyps) {
			return false
		}
	default:
		return false
	}
	c := toBigRat(cert.Nums[0])
	strict, onlyEquations := c.Sign() > 0, c.Sign() == 0 && len(cert.Squares) == 0
	total := monomial(c).plus(sum(cert.Squares))
	for k, h := range hyps {
		m := sum(cert.Kids[k].Squares)
		if h.Rel == equal {
			m = tableOf(cert.Kids[k].Polys[0])
		}
		total = total.plus(m.times(tableOf(h.Poly)))
		for _, s := range cert.Kids[k].Squares {
			onlyEquations = false
			p := tableOf(s.Poly)
			strict = strict || h.Rel == greater && toBigRat(s.Weight).Sign() > 0 && len(p) == 1 && p[key{}] != nil
		}
	}
	return c.Sign() >= 0 && total.equals(goal) && (rel == atLeast || rel == greater && strict || rel == equal && onlyEquations)
}

// holds reports whether a claim holds at a point.
func holds(c api.Claim, at []*big.Rat) bool {
	sign := tableOf(c.Poly).eval(at).Sign()
	return sign == 0 && c.Rel < greater || sign > 0 && c.Rel > equal
}

func point(at []*big.Rat) []api.Rat {
	list := make([]api.Rat, len(at))
	for i, x := range at {
		list[i] = fromBigRat(x)
	}
	return list
}

func unpoint(at []api.Rat) []*big.Rat {
	list := make([]*big.Rat, len(at))
	for i, x := range at {
		list[i] = toBigRat(x)
	}
	return list
}

func equalNumbers(a, b api.Rat) bool {
	return a.Neg == b.Neg && slices.Equal(a.Num, b.Num) && slices.Equal(a.Den, b.Den)
}

func equalPolys(p, q api.Poly) bool {
	return p.N == q.N && slices.EqualFunc(p.Terms, q.Terms, func(s, t api.Mono) bool {
		return slices.Equal(s.Exps, t.Exps) && equalNumbers(s.Coef, t.Coef)
	})
}

func equalSquares(a, b []api.Square) bool {
	return slices.EqualFunc(a, b, func(s, t api.Square) bool {
		return equalNumbers(s.Weight, t.Weight) && equalPolys(s.Poly, t.Poly)
	})
}

func equalCerts(a, b api.Cert) bool {
	return a.Kind == b.Kind && slices.EqualFunc(a.Nums, b.Nums, equalNumbers) && slices.EqualFunc(a.Polys, b.Polys, equalPolys) && equalSquares(a.Squares, b.Squares) && slices.EqualFunc(a.Kids, b.Kids, equalCerts)
}

func cloneNumber(a api.Rat) api.Rat {
	return api.Rat{Neg: a.Neg, Num: slices.Clone(a.Num), Den: slices.Clone(a.Den)}
}

func clonePoly(p api.Poly) api.Poly {
	copied := api.Poly{N: p.N, Terms: slices.Clone(p.Terms)}
	for i, m := range p.Terms {
		copied.Terms[i] = api.Mono{Exps: slices.Clone(m.Exps), Coef: cloneNumber(m.Coef)}
	}
	return copied
}

func cloneSquare(s api.Square) api.Square {
	return api.Square{Weight: cloneNumber(s.Weight), Poly: clonePoly(s.Poly)}
}

func cloneClaim(c api.Claim) api.Claim {
	return api.Claim{Poly: clonePoly(c.Poly), Rel: c.Rel}
}

func cloneCert(c api.Cert) api.Cert {
	return api.Cert{Kind: c.Kind, Nums: cloneAll(c.Nums, cloneNumber), Polys: cloneAll(c.Polys, clonePoly), Squares: cloneAll(c.Squares, cloneSquare), Kids: cloneAll(c.Kids, cloneCert)}
}

// cloneAll clones a list and its items.
func cloneAll[T any](list []T, item func(x T) T) []T {
	copied := slices.Clone(list)
	for i, x := range list {
		copied[i] = item(x)
	}
	return copied
}

// isNone reports whether a certificate is the zero value.
func isNone(c api.Cert) bool {
	return equalCerts(c, api.Cert{})
}

func briefNumber(a api.Rat) string {
	if len(a.Num) > 4 || len(a.Den) > 4 {
		return "<" + strconv.Itoa(len(a.Num)) + "/" + strconv.Itoa(len(a.Den)) + " words>"
	}
	if len(a.Den) == 0 {
		return "none"
	}
	return toBigRat(a).RatString()
}

// brief writes a polynomial for a message.
func brief(p api.Poly) string {
	if len(p.Terms) > 15 {
		return "a polynomial of " + strconv.Itoa(len(p.Terms)) + " terms"
	}
	var parts []string
	for _, m := range p.Terms {
		text := briefNumber(m.Coef)
		for i, k := range m.Exps {
			if k != 0 {
				text += "*x" + strconv.Itoa(i) + "^" + strconv.Itoa(k)
			}
		}
		parts = append(parts, text)
	}
	return strconv.Itoa(p.N) + ":{" + strings.Join(parts, " + ") + "}"
}

func briefClaims(list ...api.Claim) string {
	var parts []string
	for _, c := range list {
		parts = append(parts, brief(c.Poly)+[...]string{" = 0", " >= 0", " > 0"}[c.Rel])
	}
	return strings.Join(parts, ", ")
}

func briefSquares(list []api.Square) string {
	var parts []string
	for _, s := range list {
		parts = append(parts, briefNumber(s.Weight)+" "+brief(s.Poly))
	}
	return "[" + strings.Join(parts, "; ") + "]"
}

func briefPoint(at []api.Rat) string {
	var parts []string
	for _, x := range at {
		parts = append(parts, briefNumber(x))
	}
	return "(" + strings.Join(parts, " ") + ")"
}

// briefCert writes a certificate for a message.
func briefCert(c api.Cert) string {
	text := "<" + strconv.Itoa(c.Kind) + " " + briefPoint(c.Nums)
	for _, p := range c.Polys {
		text += " " + brief(p)
	}
	text += " " + briefSquares(c.Squares)
	for _, kid := range c.Kids {
		text += " " + briefCert(kid)
	}
	return text + ">"
}

// proves checks what Proves says of a certificate.
func proves(t *testing.T, what string, hyps []api.Claim, goal api.Claim, cert api.Cert, want bool) {
	t.Helper()
	if got, e := square.Proves(hyps, goal, cert); got != want || e != api.OK {
		t.Errorf("that the certificate with %s proves the goal is %t, %d", what, got, e)
	}
}

// implied calls Implied and checks what it returns. It reports whether that is a certificate.
func implied(t *testing.T, hyps []api.Claim, goal api.Claim) bool {
	t.Helper()
	cert, e := square.Implied(hyps, goal)
	if e == api.ErrSeek && isNone(cert) {
		return false
	}
	what := "the certificate " + briefCert(cert) + " for " + briefClaims(hyps...) + " |- " + briefClaims(goal)
	if e != api.OK {
		t.Errorf("%s has error %d", what, e)
		return false
	}
	if ok, e := square.Proves(hyps, goal, cert); !ok || e != api.OK {
		t.Errorf("that %s proves it is %t, %d", what, ok, e)
	}
	if !certifies(hyps, tableOf(goal.Poly), goal.Rel, cert) {
		t.Errorf("%s does not add up", what)
	}
	return true
}

// mustImply checks that Implied finds a certificate.
func mustImply(t *testing.T, hyps []api.Claim, goal api.Claim) {
	t.Helper()
	if !implied(t, hyps, goal) {
		t.Errorf("no certificate for %s |- %s", briefClaims(hyps...), briefClaims(goal))
	}
}

// invalidNumbers returns numbers that are not valid.
func invalidNumbers() []api.Rat {
	return []api.Rat{{}, {Num: []uint32{1}}, {Neg: true, Den: []uint32{1}}, {Num: []uint32{2}, Den: []uint32{4}}, {Num: []uint32{1, 0}, Den: []uint32{1}}, {Num: []uint32{1}, Den: []uint32{1, 0}}, fromBigRat(power(32 * 4096)), fromBigRat(power(-32 * 4096))}
}

// invalidPolys returns polynomials that are not valid.
func invalidPolys() map[string]api.Poly {
	one := number("1")
	of := func(n int, lists ...[]int) api.Poly {
		p := api.Poly{N: n}
		for _, exps := range lists {
			p.Terms = append(p.Terms, api.Mono{Exps: exps, Coef: one})
		}
		return p
	}
	list := map[string]api.Poly{
		"N below 0": {N: -1}, "N above MaxVars": {N: 9}, "no exponents": of(1, nil), "an exponent too few": of(2, []int{1}), "an exponent too many": of(2, []int{1, 0, 0}), "an exponent below 0": of(2, []int{2, -1}), "a degree above MaxDegree": of(2, []int{20, 21}), "exponents that overflow": of(2, []int{1 << 62, 1 << 62}),
		"a term twice": of(2, []int{1, 0}, []int{1, 0}), "ascending terms": of(2, []int{0, 1}, []int{1, 0}), "two constants": of(0, []int{}, []int{}), "a coefficient 0": {N: 1, Terms: []api.Mono{{Exps: []int{1}, Coef: number("0")}}}, "too many terms": dense(8, 7).poly(8),
		"201 words in Num": monomial(power(32*200), 1).poly(1), "201 words in Den": monomial(power(-32*200), 1).poly(1),
	}
	for i, x := range invalidNumbers() {
		list["invalid number "+strconv.Itoa(i)] = api.Poly{N: 1, Terms: []api.Mono{{Exps: []int{0}, Coef: x}}}
	}
	return list
}

// longNumbers returns valid numbers that are too long for a claim, by one word or more.
func longNumbers() []*big.Rat {
	var list []*big.Rat
	for _, words := range []int{20, 21, 100, 199} {
		list = append(list, power(32*words), power(-32*words), neg(power(32*words)))
	}
	return list
}
