package field

// sum adds up numbers. Each of them is reduced before it is added, so that no
// sum is too large for an integer.
func sum(numbers ...int) (x int) {
	for _, n := range numbers {
		x = Mod(x + Mod(n))
	}
	return x
}

// difference returns a without b. The opposite of the least integer is no
// integer, so that b is reduced first.
func difference(a, b int) int { return sum(a, -Mod(b)) }

// power returns the power of x to n.
func power(x int, n uint) (y int) {
	y = 1
bits:
	for ; ; n >>= 1 {
		switch {
		case n == 0:
			break bits
		case n&1 == 1:
			y = Mul(y, x)
		}
		x = Mul(x, x)
	}
	return y
}
