package sign

import (
	"signatory/api"
	"signatory/field"
	"signatory/group"
)

// A number is a number of the field, to which others are added.
type number int

// add adds m, which may be any integer.
func (n *number) add(m int) { *n = number(field.Add(int(*n), m)) }

// inField reports whether n is from 0 to Q - 1.
func inField(n int) bool { return n >= 0 && n < api.Q }

// answer returns the S of a signature with the nonce k and the challenge e.
func answer(k, e, secret int) int {
	var sum number
	add := sum.add
	add(k)
	add(field.Mul(e, secret))
	return int(sum)
}

// point returns the point of s for a key, which is an element. For what Sign
// returns it is G to the power of the nonce, as the secret cancels out.
func point(key int, s api.Sig) int {
	// A product of elements is one: there is no error.
	x, _ := group.Mul(power(api.G, s.S), power(key, -s.E))
	return x
}

// power returns the power of an element.
func power(a, n int) int {
	x, _ := group.Pow(a, n)
	return x
}
