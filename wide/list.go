package wide

// Whole returns integers without a common factor, and a positive number whose products with them are the given numbers. If all of these are zero, so is the factor.
func Whole(numbers []Num) (whole []Num, factor Num) {
	den := Int(1)
	for _, x := range numbers {
		d := x.Denominator()
		own, _ := d.DivMod(GCD(den, d))
		den = den.Mul(own)
	}
	whole = make([]Num, len(numbers))
	for i, x := range numbers {
		// The denominator divides den.
		scale, _ := den.DivMod(x.Denominator())
		whole[i] = x.Numerator().Mul(scale)
	}
	whole, content := Primitive(whole)
	return whole, content.Quo(den)
}

// Primitive returns integers without the positive factor that they have in common, and that factor. It needs integers. If all of them are zero, so is the factor.
func Primitive(integers []Num) (rest []Num, content Num) {
	one := Int(1)
	for _, x := range integers {
		content = GCD(content, x)
		if content.Cmp(one) == 0 {
			return integers, content
		}
	}
	if content.IsZero() {
		return integers, content
	}
	rest = make([]Num, len(integers))
	for i, x := range integers {
		rest[i], _ = x.DivMod(content)
	}
	return rest, content
}
