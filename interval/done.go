package interval

import "raycone/api"

// bySign: what is done with two.
func bySign(sign string) (done func(a, b ends) ends, ok bool) {
	switch sign {
	case "+":
		return sums, true
	case "-":
		return differences, true
	case "*":
		return products, true
	case "/":
		return quotients, true
	case "%":
		return remainders, true
	}
	return nil, false
}

// sum of two that are not far on opposite sides.
func sum(x, y int) int {
	switch {
	case isFar(x):
		return x
	case isFar(y):
		return y
	}
	return x + y
}

func isFar(n int) bool { return n == far || n == -far }

// product, far as soon as it is beyond MaxBound; 0 times what is far is 0, as what is far stands for numbers that go on and on.
func product(x, y int) int {
	switch {
	case x == 0 || y == 0:
		return 0
	case max(x, -x) <= api.MaxBound/max(y, -y):
		return x * y
	case (x < 0) == (y < 0):
		return far
	}
	return -far
}

// quotient by a number from 1 on, towards 0.
func quotient(x, by int) int {
	if isFar(x) {
		return x
	}
	return x / by
}

// corners: from the least to the greatest of what an end of a and one of b make.
func corners(a, b ends, made func(x, y int) int) ends {
	e := nothing()
	for _, x := range a {
		for _, y := range b {
			n := made(x, y)
			e = e.join(ends{n, n})
		}
	}
	return e
}

func sums(a, b ends) ends { return ends{sum(a[0], b[0]), sum(a[1], b[1])} }

func differences(a, b ends) ends { return sums(a, b.opposite()) }

func products(a, b ends) ends { return corners(a, b, product) }

// quotients by numbers above 0, and below: those are the same as of opposites by opposites.
func quotients(a, b ends) ends {
	return quotientsAbove(a, b).join(quotientsAbove(a.opposite(), b.opposite()))
}

// quotientsAbove: by the numbers of b above 0.
func quotientsAbove(a, b ends) ends {
	if b = b.from(1); b.isNone() {
		return nothing()
	}
	return corners(a, b, quotient)
}

// remainders have the signs of a: the sign of b does not count.
func remainders(a, b ends) ends {
	sizes := sizesOf(b)
	if sizes.isNone() {
		return nothing()
	}
	return remaindersAbove(a, sizes).join(remaindersAbove(a.opposite(), sizes).opposite())
}

// sizesOf all numbers but 0.
func sizesOf(b ends) ends { return b.from(1).join(b.opposite().from(1)) }

// remaindersAbove: of the numbers of a from 0 on.
func remaindersAbove(a, sizes ends) ends {
	if a = a.from(0); a.isNone() {
		return nothing()
	}
	if times := quotient(a[0], sizes[1]); times == quotient(a[1], sizes[0]) {
		// All quotients are the same: so more of a, and less of b, leaves more.
		return ends{a[0] - product(times, sizes[1]), a[1] - product(times, sizes[0])}
	}
	return ends{0, min(a[1], sum(sizes[1], -1))}
}
