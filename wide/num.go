// Package wide: whole numbers of any size, and rows of them, for all that lies between what is handed in and what is told.
package wide

import (
	"cmp"
	"math"
	"math/bits"
)

// Num is a whole number of any size. Its zero value is 0; no call changes one.
type Num struct {
	near int   // the number; where far holds its size, only the sign
	far  limbs // empty just if an int holds the number, so that most sums need no memory
}

// From an int.
func From(n int) Num { return Num{near: n} }

func fromSize(sign int, size limbs) Num {
	switch len(size) {
	case 0:
		return Num{}
	case 1:
		return fromLimb(sign, size[0])
	}
	return Num{near: sign, far: size}
}

func fromLimb(sign int, size uint64) Num {
	switch {
	case size <= math.MaxInt:
		return Num{near: sign * int(size)}
	case sign < 0 && size == 1<<63:
		return Num{near: math.MinInt}
	}
	return Num{near: sign, far: limbs{size}}
}

func (a Num) isNear() bool { return len(a.far) == 0 }

func (a Num) size() limbs {
	if a.isNear() {
		return limbs{nearSize(a.near)}.trim()
	}
	return a.far
}

func nearSize(n int) uint64 {
	if n < 0 {
		return -uint64(n)
	}
	return uint64(n)
}

// Sign is -1, 0 or 1.
func (a Num) Sign() int { return cmp.Compare(a.near, 0) }

// Compare with b: -1 below it, 0 the same, 1 above it.
func (a Num) Compare(b Num) int {
	if a.isNear() && b.isNear() {
		return cmp.Compare(a.near, b.near)
	}
	return a.Minus(b).Sign()
}

// Above tells whether the size is above most, which is from 0 on.
func (a Num) Above(most int) bool {
	return !a.isNear() || a.near > most || a.near < -most
}

// Int is the number, if an int holds it.
func (a Num) Int() (int, bool) {
	if a.isNear() {
		return a.near, true
	}
	return 0, false
}

// Negated number.
func (a Num) Negated() Num {
	if a.isNear() && a.near != math.MinInt {
		return From(-a.near)
	}
	return fromSize(-a.Sign(), a.size())
}

// Plus b.
func (a Num) Plus(b Num) Num {
	if a.isNear() && b.isNear() {
		// A sum that wraps round moves against the sign of b.
		if sum := a.near + b.near; (sum > a.near) == (b.near > 0) {
			return From(sum)
		}
	}
	x, y := a.size(), b.size()
	switch {
	case a.Sign() == b.Sign():
		return fromSize(a.Sign(), x.plus(y))
	case x.compare(y) >= 0:
		return fromSize(a.Sign(), x.minus(y))
	}
	return fromSize(b.Sign(), y.minus(x))
}

// Minus b.
func (a Num) Minus(b Num) Num { return a.Plus(b.Negated()) }

// Times b.
func (a Num) Times(b Num) Num {
	sign := a.Sign() * b.Sign()
	if !a.isNear() || !b.isNear() {
		return fromSize(sign, a.size().times(b.size()))
	}
	high, low := bits.Mul64(nearSize(a.near), nearSize(b.near))
	if high == 0 {
		return fromLimb(sign, low)
	}
	return fromSize(sign, limbs{low, high})
}

// Over b, the fraction left out; over 0 it is 0.
func (a Num) Over(b Num) Num {
	sign := a.Sign() * b.Sign()
	if sign == 0 {
		return Num{}
	}
	if a.isNear() && b.isNear() {
		return fromLimb(sign, nearSize(a.near)/nearSize(b.near))
	}
	quotient, _ := a.size().over(b.size())
	return fromSize(sign, quotient)
}

// Floor of a over b, which is above 0: the greatest whole number that is not above that.
func (a Num) Floor(b Num) Num {
	quotient := a.Over(b)
	if a.Sign() < 0 && quotient.Times(b).Compare(a) != 0 {
		return quotient.Minus(From(1))
	}
	return quotient
}

// Divisor is the greatest number that divides both, 0 if both are 0.
func Divisor(a, b Num) Num {
	if a.isNear() && b.isNear() {
		return fromLimb(1, limbDivisor(nearSize(a.near), nearSize(b.near)))
	}
	x, y := a.size(), b.size()
	if x.compare(y) < 0 {
		x, y = y, x
	}
	for len(x) > 1 && len(y) > 0 {
		_, rest := x.over(y)
		x, y = y, rest
	}
	if len(y) == 0 {
		return fromSize(1, x)
	}
	return fromLimb(1, limbDivisor(x[0], y[0]))
}

func limbDivisor(x, y uint64) uint64 {
	for y != 0 {
		x, y = y, x%y
	}
	return x
}
