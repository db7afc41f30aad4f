package wide

import (
	"cmp"
	"math/bits"
)

// limbs is the size of a number: 64 bits each, the lowest first, the last one not 0.
// Once it is trimmed it is never changed: so numbers may share it.
type limbs []uint64

func (a limbs) trim() limbs {
	n := len(a)
	for n > 0 && a[n-1] == 0 {
		n--
	}
	return a[:n]
}

func (a limbs) compare(b limbs) int {
	if len(a) != len(b) {
		return cmp.Compare(len(a), len(b))
	}
	for i := len(a) - 1; i >= 0; i-- {
		if a[i] != b[i] {
			return cmp.Compare(a[i], b[i])
		}
	}
	return 0
}

func (a limbs) plus(b limbs) limbs {
	if len(a) < len(b) {
		a, b = b, a
	}
	sum := make(limbs, len(a)+1)
	copy(sum, b)
	var carry uint64
	for i, x := range a {
		sum[i], carry = bits.Add64(x, sum[i], carry)
	}
	sum[len(a)] = carry
	return sum.trim()
}

// minus takes b away, which is not the greater one.
func (a limbs) minus(b limbs) limbs {
	rest := make(limbs, len(a))
	copy(rest, b)
	var borrow uint64
	for i, x := range a {
		rest[i], borrow = bits.Sub64(x, rest[i], borrow)
	}
	return rest.trim()
}

func (a limbs) times(b limbs) limbs {
	product := make(limbs, len(a)+len(b))
	for i, x := range a {
		var carry uint64
		for j, y := range b {
			carry, product[i+j] = timesPlus(x, y, product[i+j], carry)
		}
		product[i+len(b)] = carry
	}
	return product.trim()
}

// timesPlus is x times y, and both others: two limbs always hold that.
func timesPlus(x, y, other, another uint64) (high, low uint64) {
	high, low = bits.Mul64(x, y)
	low, carry := bits.Add64(low, other, 0)
	high += carry
	low, carry = bits.Add64(low, another, 0)
	return high + carry, low
}

// over divides by b, which is not 0.
func (a limbs) over(b limbs) (quotient, rest limbs) {
	if a.compare(b) < 0 {
		return nil, a
	}
	if len(b) == 1 {
		return a.overOne(b[0])
	}
	// The guess at a limb is good only if the divisor's highest bit is set.
	shift := bits.LeadingZeros64(b[len(b)-1])
	rest, by := a.up(shift), b.up(shift).trim()
	quotient = make(limbs, len(a)-len(b)+1)
	for i := len(quotient) - 1; i >= 0; i-- {
		quotient[i] = takeOut(rest[i:i+len(by)+1], by)
	}
	return quotient.trim(), rest.down(shift).trim()
}

func (a limbs) overOne(b uint64) (quotient, rest limbs) {
	quotient = make(limbs, len(a))
	var left uint64
	for i := len(a) - 1; i >= 0; i-- {
		quotient[i], left = bits.Div64(left, a[i], b)
	}
	return quotient.trim(), limbs{left}.trim()
}

// up is a times 2 to the shift, which is below 64, with one limb more, be it 0.
func (a limbs) up(shift int) limbs {
	l := make(limbs, len(a)+1)
	for i, x := range a {
		l[i] |= x << shift
		l[i+1] = x >> (64 - shift)
	}
	return l
}

// down is a over 2 to the shift, which is below 64.
func (a limbs) down(shift int) limbs {
	l := make(limbs, len(a))
	for i, x := range a {
		l[i] = x >> shift
		if i > 0 {
			l[i-1] |= x << (64 - shift)
		}
	}
	return l
}

// takeOut takes by out of part, one limb longer, as often as it goes, and tells how often.
func takeOut(part, by limbs) uint64 {
	often := guess(part, by)
	if takeTimes(part, by, often) {
		often--
		giveBack(part, by)
	}
	return often
}

// guess is never too small, and too great by at most 1: two limbs of by, the highest bit set, are enough for that (KNUTH).
func guess(part, by limbs) uint64 {
	n := len(by)
	if part[n] >= by[n-1] {
		return 1<<64 - 1
	}
	often, left := bits.Div64(part[n], part[n-1], by[n-1])
	for {
		high, low := bits.Mul64(often, by[n-2])
		if high < left || high == left && low <= part[n-2] {
			return often
		}
		often--
		var carry uint64
		left, carry = bits.Add64(left, by[n-1], 0)
		if carry != 0 {
			return often
		}
	}
}

// takeTimes takes by so often out of part, and tells whether it came below 0.
func takeTimes(part, by limbs, often uint64) bool {
	var carry, borrow, low uint64
	for i, x := range by {
		carry, low = timesPlus(often, x, carry, 0)
		part[i], borrow = bits.Sub64(part[i], low, borrow)
	}
	part[len(by)], borrow = bits.Sub64(part[len(by)], carry, borrow)
	return borrow != 0
}

// giveBack adds by to part, which came below 0 and wrapped round, so that it wraps back.
func giveBack(part, by limbs) {
	var carry uint64
	for i, x := range by {
		part[i], carry = bits.Add64(part[i], x, carry)
	}
	part[len(by)] += carry
}
