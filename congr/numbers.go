package congr

import "math"

// rest from 0 to mod - 1 that n leaves, also below 0; by 0, all of n is left.
func rest(n, mod int) int {
	if mod == 0 {
		return n
	}
	return (n%mod + mod) % mod
}

func size(n int) int { return max(n, -n) }

// divisor: the greatest that all have, any many at once; 0 where there are none but zeros.
func divisor(l ...int) int {
	d := 0
	for _, n := range l {
		for n = size(n); n != 0; {
			d, n = n, d%n
		}
	}
	return d
}

// inverse of n: times n, it leaves 1 by mod. Nothing but 1 divides both.
func inverse(n, mod int) int {
	x, y := mod, rest(n, mod)
	// By mod, x is xs times n, and y is ys times n.
	xs, ys := 0, 1
	for y != 0 {
		q := x / y
		x, y = y, x-q*y
		xs, ys = ys, xs-q*ys
	}
	return xs
}

// product, or the greatest number where it would wrap round: it only does so where both are numbers alone, and then either is too great to be told.
func product(x, y int) int {
	if y != 0 && size(x) > math.MaxInt/size(y) {
		return math.MaxInt
	}
	return x * y
}
