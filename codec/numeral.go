package codec

import "math/bits"

// A numeral has at most maxDigits digits of digitBits bits each; lastDigit is
// the greatest digit at the last of these places, as it has only one bit left.
const (
	digitBits = 7
	base      = 1 << digitBits
	maxDigits = 10
	lastDigit = 1
)

func unsignedForm(n int) uint64 {
	if n < 0 {
		// -2n - 1, without a step that the least int would not survive.
		return 2*uint64(-(n+1)) + 1
	}
	return 2 * uint64(n)
}

func signedForm(u uint64) int {
	if u%2 == 1 {
		return -int(u/2) - 1
	}
	return int(u / 2)
}

func numeralSize(u uint64) int {
	return max(1, (bits.Len64(u)+digitBits-1)/digitBits)
}

func appendNumeral(b []byte, u uint64) []byte {
	for ; u >= base; u /= base {
		b = append(b, byte(u%base+base))
	}
	return append(b, byte(u))
}
