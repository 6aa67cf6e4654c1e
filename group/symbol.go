package group

import "signatory/api"

// isSquare reports whether x, which is from 1 to P - 1, is a square modulo P.
// This is the symbol of Jacobi: as P is a prime, it is 1 for squares alone. It
// is found like a greatest common divisor, by dividing.
func isSquare(x int) bool {
	// The symbol of upper and lower is the one asked for, or its opposite.
	// Lower stays odd, and upper never becomes 0: the two have no common divisor.
	upper, lower := x, api.P
	opposite := false
divide:
	for {
		switch {
		case upper == 1:
			break divide
		case upper%2 == 0:
			upper /= 2
			// The symbol of 2 is -1 for these numbers, and 1 for other odd ones.
			if lower%8 == 3 || lower%8 == 5 {
				opposite = !opposite
			}
		default:
			// Two odd numbers may be exchanged, by the law of reciprocity.
			if upper%4 == 3 && lower%4 == 3 {
				opposite = !opposite
			}
			upper, lower = lower%upper, upper
		}
	}
	return !opposite
}
