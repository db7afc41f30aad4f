package wide

import (
	"math"
	"math/big"
	"math/rand"
	"testing"
)

func bigOf(n Num) *big.Int {
	b := new(big.Int)
	size := n.size()
	for i := len(size) - 1; i >= 0; i-- {
		b.Lsh(b, 64).Add(b, new(big.Int).SetUint64(size[i]))
	}
	if n.Sign() < 0 {
		b.Neg(b)
	}
	return b
}

func numOf(b *big.Int) Num {
	var size limbs
	rest, low := new(big.Int).Abs(b), new(big.Int)
	mask := new(big.Int).SetUint64(math.MaxUint64)
	for rest.Sign() != 0 {
		size = append(size, low.And(rest, mask).Uint64())
		rest.Rsh(rest, 64)
	}
	return fromSize(b.Sign(), size)
}

// wellMade tells whether the number is kept in its one right way.
func wellMade(n Num) bool {
	if len(n.far) == 0 {
		return true
	}
	return n.far[len(n.far)-1] != 0 && (n.near == 1 || n.near == -1) && !bigOf(n).IsInt64()
}

// edges are numbers at which limbs begin or end, or guesses of a quotient go wrong.
func edges() []Num {
	words := []uint64{0, 1, 2, 1<<63 - 1, 1 << 63, 1<<63 + 1, math.MaxUint64}
	var l []Num
	add := func(size ...uint64) {
		l = append(l, fromSize(1, limbs(size).trim()), fromSize(-1, limbs(size).trim()))
	}
	for _, x := range words {
		add(x)
		for _, y := range []uint64{1, 1 << 63, math.MaxUint64} {
			add(x, y)
			add(x, y, 1<<63)
			add(x, 0, y)
		}
	}
	return append(l, From(math.MaxInt), From(math.MinInt), From(math.MinInt+1), Num{})
}

// random numbers of up to seven limbs, many of them nothing but ones or zeros.
func random(r *rand.Rand) Num {
	size := make(limbs, r.Intn(8))
	for i := range size {
		switch r.Intn(4) {
		case 0:
			size[i] = math.MaxUint64
		case 1:
			size[i] = uint64(r.Intn(3))
		default:
			size[i] = r.Uint64() >> r.Intn(64)
		}
	}
	return fromSize(1-2*r.Intn(2), size.trim())
}

func checkPair(t *testing.T, a, b Num) {
	t.Helper()
	x, y := bigOf(a), bigOf(b)
	check := func(name string, got Num, want *big.Int) {
		t.Helper()
		if bigOf(got).Cmp(want) != 0 || !wellMade(got) {
			t.Errorf("%s of %v and %v: %v (%v), want %v", name, x, y, bigOf(got), got, want)
		}
	}
	check("sum", a.Plus(b), new(big.Int).Add(x, y))
	check("difference", a.Minus(b), new(big.Int).Sub(x, y))
	check("product", a.Times(b), new(big.Int).Mul(x, y))
	check("divisor", Divisor(a, b), new(big.Int).GCD(nil, nil, new(big.Int).Abs(x), new(big.Int).Abs(y)))
	quotient := new(big.Int)
	if y.Sign() != 0 {
		quotient.Quo(x, y)
	}
	check("quotient", a.Over(b), quotient)
	if y.Sign() > 0 {
		// Of what is above 0 big's quotient is the floor.
		check("floor", a.Floor(b), new(big.Int).Div(x, y))
	}
	if got := a.Compare(b); got != x.Cmp(y) {
		t.Errorf("%v held against %v: %d", x, y, got)
	}
	check("exact quotient", a.Times(b).Over(b), new(big.Int).Mul(x, big.NewInt(int64(b.Sign()*b.Sign()))))
}

func TestPairsOfEdges(t *testing.T) {
	l := edges()
	for _, a := range l {
		for _, b := range l {
			checkPair(t, a, b)
		}
	}
}

func TestPairsAtRandom(t *testing.T) {
	r := rand.New(rand.NewSource(1))
	for range 20000 {
		checkPair(t, random(r), random(r))
	}
}

func TestSingleNumbers(t *testing.T) {
	for _, a := range edges() {
		x := bigOf(a)
		if got := a.Negated(); bigOf(got).Cmp(new(big.Int).Neg(x)) != 0 || !wellMade(got) {
			t.Errorf("opposite of %v: %v", x, got)
		}
		if a.Sign() != x.Sign() {
			t.Errorf("sign of %v: %d", x, a.Sign())
		}
		n, ok := a.Int()
		if ok != x.IsInt64() || ok && int64(n) != x.Int64() || !ok && n != 0 {
			t.Errorf("int of %v: %d %v", x, n, ok)
		}
		for _, most := range []int{0, 1, 1 << 31, 1 << 62, math.MaxInt} {
			want := new(big.Int).Abs(x).Cmp(big.NewInt(int64(most))) > 0
			if a.Above(most) != want {
				t.Errorf("%v above %d: %v", x, most, !want)
			}
		}
		if bigOf(numOf(x)).Cmp(x) != 0 {
			t.Errorf("%v comes back as %v", x, bigOf(numOf(x)))
		}
	}
}

// Numbers share memory: a sum or quotient must not write into what it was made of.
func TestNumbersStay(t *testing.T) {
	r := rand.New(rand.NewSource(2))
	for range 2000 {
		a, b := random(r), random(r)
		x, y := bigOf(a), bigOf(b)
		for _, n := range []Num{a.Plus(b), a.Minus(b), a.Times(b), a.Over(b), Divisor(a, b), a.Negated()} {
			n.Plus(a).Minus(b).Times(n).Over(a)
		}
		if bigOf(a).Cmp(x) != 0 || bigOf(b).Cmp(y) != 0 {
			t.Fatalf("%v and %v changed to %v and %v", x, y, bigOf(a), bigOf(b))
		}
	}
}
