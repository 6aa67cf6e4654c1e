package group

import (
	"iter"
	"math/bits"

	"signatory/api"
	"signatory/field"
)

// exponent returns the number from 0 to Q - 1 that is congruent to the sum of
// the terms. As Q is the order of the group, powers to both are the same.
func exponent(terms ...int) (n int) {
	for _, t := range terms {
		n = field.Add(n, t)
	}
	return n
}

// power returns the power of a to n, which is not negative.
func power(a, n int) (c int) {
	c = 1
	for square := range squares(a, bits.Len(uint(n))) {
		if n&1 == 1 {
			c = product(c, square)
		}
		n >>= 1
	}
	return c
}

// squares yields a, its square, the square of this one, and so on: as many
// numbers as asked for.
func squares(a, many int) iter.Seq[int] {
	return func(yield func(int) bool) {
		square := a
		for range many {
			if !yield(square) {
				return
			}
			square = product(square, square)
		}
	}
}

// product returns the product modulo P of two numbers from 0 to P - 1. Such
// numbers have 31 bits, so that their product fits into an integer.
func product(a, b int) int { return a * b % api.P }
