package dual

import "math/bits"

// places is a set of numbers from 0 on. No method changes one; what comes is new.
type places []uint64

func placesBelow(n int) places {
	return placesWhere(n, func(int) bool { return true })
}

// placesWhere: the numbers below n of which is tells true.
func placesWhere(n int, is func(i int) bool) places {
	p := make(places, (n+63)/64)
	for i := range n {
		if is(i) {
			p[i/64] |= 1 << (i % 64)
		}
	}
	return p
}

func (p places) with(n int) places {
	l := make(places, max(len(p), n/64+1))
	copy(l, p)
	l[n/64] |= 1 << (n % 64)
	return l
}

// both: the numbers that are in p and in q.
func (p places) both(q places) places {
	l := make(places, min(len(p), len(q)))
	for i := range l {
		l[i] = p[i] & q[i]
	}
	return l
}

func (p places) within(q places) bool {
	for i, word := range p {
		if i < len(q) {
			word &^= q[i]
		}
		if word != 0 {
			return false
		}
	}
	return true
}

func (p places) count() int {
	n := 0
	for _, word := range p {
		n += bits.OnesCount64(word)
	}
	return n
}
