package rat

// The functions on natural numbers of any length, for tests of their own.
var (
	Compare = compare
	Plus    = plus
	Minus   = minus
	Times   = times
	Divide  = divide
	Move    = move
)
