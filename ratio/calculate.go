package ratio

import (
	"bandplan/api"
	"bandplan/number"
)

// An operation of layer 1 takes two Ints.
type operation func(a, b api.Int) (api.Int, api.Errno)

// A rule says how a calculation is made. The denominator of its result is always the product of two denominators.
type rule struct {
	inverts bool      // whether the second Ratio is replaced by its reciprocal
	scale   operation // what is made of each numerator and the other denominator
	join    operation // what is made of these two: the numerator
}

// A kind of calculation is an index into the table of rules.
type kind int

const (
	adding kind = iota
	subtracting
	multiplying
	dividing
)

func ruleOf(k kind) rule {
	keep := func(n, _ api.Int) (api.Int, api.Errno) { return n, api.OK }
	rules := [...]rule{
		adding:      {scale: number.Mul, join: number.Add},
		subtracting: {scale: number.Mul, join: number.Sub},
		multiplying: {scale: keep, join: number.Mul},
		dividing:    {scale: keep, join: number.Mul, inverts: true},
	}
	return rules[k]
}

// Add returns a sum.
func Add(a, b api.Ratio) (api.Ratio, api.Errno) { return calculate(ruleOf(adding), a, b) }

// Sub returns a difference.
func Sub(a, b api.Ratio) (api.Ratio, api.Errno) { return calculate(ruleOf(subtracting), a, b) }

// Mul returns a product.
func Mul(a, b api.Ratio) (api.Ratio, api.Errno) { return calculate(ruleOf(multiplying), a, b) }

// Quo returns a quotient.
func Quo(a, b api.Ratio) (api.Ratio, api.Errno) { return calculate(ruleOf(dividing), a, b) }

func calculate(r rule, a, b api.Ratio) (api.Ratio, api.Errno) {
	if !Valid(a) || !Valid(b) || r.inverts && number.Sign(b.Num) == 0 {
		return api.Ratio{}, api.ErrArg
	}
	if r.inverts {
		// This may give a denominator below 0, whose sign goes when the result is reduced.
		b = api.Ratio{Num: b.Den, Den: b.Num}
	}
	failed := api.OK
	apply := func(do operation, x, y api.Int) api.Int {
		result, e := do(x, y)
		if failed == api.OK {
			failed = e
		}
		return result
	}
	left := apply(r.scale, a.Num, b.Den)
	right := apply(r.scale, b.Num, a.Den)
	num := apply(r.join, left, right)
	den := apply(number.Mul, a.Den, b.Den)
	if failed != api.OK {
		return api.Ratio{}, failed
	}
	return reduce(num, den), api.OK
}

// Neg returns a Ratio with the other sign.
func Neg(a api.Ratio) (api.Ratio, api.Errno) {
	if !Valid(a) {
		return api.Ratio{}, api.ErrArg
	}
	num, e := number.Neg(a.Num)
	return api.Ratio{Num: num, Den: cloneInt(a.Den)}, e
}
