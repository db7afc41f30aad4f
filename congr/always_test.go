package congr

import (
	"math/big"
	"math/rand"
	"testing"

	"raycone/api"
	"raycone/interval"
)

// Each answer is held against numbers that are gone through one by one, from -window to window: enough to have two of each congruence that two small ones make.
const (
	smallMod = 9
	window   = 150
)

// smalls: all congruences whose Mod, or whose number alone, is small.
func smalls() []Congr {
	var l []Congr
	for n := -smallMod; n <= smallMod; n++ {
		l = append(l, only(n))
	}
	for mod := 1; mod <= smallMod; mod++ {
		for rest := range mod {
			l = append(l, c(rest, mod))
		}
	}
	return l
}

// numbers of a congruence within the window, by what the promise says they are.
func numbers(a Congr) []int {
	var l []int
	for n := -window; n <= window; n++ {
		if n == a.Rest || a.Mod != 0 && (n-a.Rest)%a.Mod == 0 {
			l = append(l, n)
		}
	}
	return l
}

// few of the numbers next to the Rest: what they make has the same steps as what all make.
func few(a Congr) []int {
	var l []int
	for n := -3; n <= 3; n++ {
		l = append(l, a.Rest+n*a.Mod)
	}
	return l
}

// leastOf numbers: the greatest Mod that divides all steps between them, looked for from above.
func leastOf(l []int) Congr {
	far := 0
	for _, n := range l {
		far = max(far, n-l[0], l[0]-n)
	}
	for mod := far; mod > 0; mod-- {
		if divides(mod, l) {
			return c(((l[0]%mod)+mod)%mod, mod)
		}
	}
	return only(l[0])
}

func divides(mod int, l []int) bool {
	for _, n := range l {
		if (n-l[0])%mod != 0 {
			return false
		}
	}
	return true
}

func eachPair(do func(a, b Congr)) {
	list := smalls()
	for _, a := range list {
		for _, b := range list {
			do(a, b)
		}
	}
}

// P71: Has is asked number by number.
func TestHasAlways(t *testing.T) {
	for _, a := range smalls() {
		in := make(map[int]bool)
		for _, n := range numbers(a) {
			in[n] = true
		}
		for n := -window; n <= window; n++ {
			if Has(a, n) != in[n] {
				t.Error(a, n, in[n])
			}
		}
	}
}

// P71, P74: Join is the least, Meet the greatest.
func TestLatticeAlways(t *testing.T) {
	eachPair(func(a, b Congr) {
		as, bs, in := numbers(a), numbers(b), make(map[int]bool)
		for _, n := range bs {
			in[n] = true
		}
		var both []int
		for _, n := range as {
			if in[n] {
				both = append(both, n)
			}
		}
		var want Congr
		if len(both) > 0 {
			want = leastOf(both)
		}
		if x, ok, err := Meet(a, b); x != want || ok != (len(both) > 0) || err != nil {
			t.Error("Meet", a, b, x, ok, err, "want", want)
		}
		if is, err := Within(a, b); is != (len(both) == len(as)) || err != nil {
			t.Error("Within", a, b, is, err)
		}
		want = leastOf(append(few(a), few(b)...))
		if x, err := Join(a, b); x != want || err != nil {
			t.Error("Join", a, b, x, err, "want", want)
		}
	})
}

// P72, P74: sums, differences and products: all are the least.
func TestDoneAlways(t *testing.T) {
	for _, w := range []struct {
		call
		made func(x, y int) int
	}{
		{one("Add", Add), func(x, y int) int { return x + y }},
		{one("Sub", Sub), func(x, y int) int { return x - y }},
		{one("Mul", Mul), func(x, y int) int { return x * y }},
	} {
		eachPair(func(a, b Congr) {
			var l []int
			for _, x := range few(a) {
				for _, y := range few(b) {
					l = append(l, w.made(x, y))
				}
			}
			wanted{a, b, leastOf(l)}.check(t, w.call)
		})
	}
}

// P72, P74: just n times the numbers.
func TestScaleAlways(t *testing.T) {
	for _, a := range smalls() {
		for n := -12; n <= 12; n++ {
			var l []int
			for _, x := range few(a) {
				l = append(l, n*x)
			}
			if x, err := Scale(a, n); x != leastOf(l) || err != nil {
				t.Error(a, n, x, err)
			}
		}
	}
}

// P73, P74: the least and the greatest are looked for; those of an interval that goes on and on, only on the other side.
func TestTightAlways(t *testing.T) {
	for _, a := range smalls() {
		l := numbers(a)
		for low := -12; low <= 12; low++ {
			for high := low; high <= 12; high++ {
				checkTight(t, a, between(low, high), l)
			}
			checkTight(t, a, from(low), l)
			checkTight(t, a, to(low), l)
		}
		checkTight(t, a, api.Interval{Down: true, Up: true}, l)
	}
}

func checkTight(t *testing.T, a Congr, b api.Interval, l []int) {
	t.Helper()
	var want api.Interval
	some := false
	for _, n := range l {
		if !b.Down && n < b.Low || !b.Up && n > b.High {
			continue
		}
		if !some {
			want.Low = n
		}
		want.High, some = n, true
	}
	if a.Mod != 0 && b.Down {
		want.Down, want.Low = true, 0
	}
	if a.Mod != 0 && b.Up {
		want.Up, want.High = true, 0
	}
	if x, ok, err := Tight(a, b); x != want || ok != some || err != nil {
		t.Error(a, b, x, ok, err, "want", want, some)
	}
}

// great congruences, of every size.
func great(r *rand.Rand) Congr {
	if r.Intn(3) == 0 {
		return only(r.Intn(2<<r.Intn(41)) - r.Intn(2<<r.Intn(40)))
	}
	mod := 1 + r.Intn(1<<r.Intn(21))
	return c(r.Intn(mod), mod)
}

// numberOf a great congruence.
func numberOf(r *rand.Rand, a Congr) *big.Int {
	n := big.NewInt(int64(a.Mod))
	n.Mul(n, big.NewInt(r.Int63()-r.Int63()))
	return n.Add(n, big.NewInt(int64(a.Rest)))
}

// hasBig: Has, of numbers of any size.
func hasBig(a Congr, n *big.Int) bool {
	n = new(big.Int).Sub(n, big.NewInt(int64(a.Rest)))
	if a.Mod == 0 {
		return n.Sign() == 0
	}
	return n.Mod(n, big.NewInt(int64(a.Mod))).Sign() == 0
}

// bigLeast: the least congruence that has n, and goes on by each step, over numbers of any size, as P70 says where it is too great.
func bigLeast(n *big.Int, steps ...*big.Int) Congr {
	mod := new(big.Int)
	for _, s := range steps {
		mod.GCD(nil, nil, mod, new(big.Int).Abs(s))
	}
	switch {
	case mod.Sign() > 0 && mod.Cmp(big.NewInt(modest)) <= 0:
		return c(int(new(big.Int).Mod(n, mod).Int64()), int(mod.Int64()))
	case mod.Sign() == 0 && new(big.Int).Abs(n).Cmp(big.NewInt(most)) <= 0:
		return only(int(n.Int64()))
	}
	return everything
}

func bigs(a Congr) (rest, mod *big.Int) { return big.NewInt(int64(a.Rest)), big.NewInt(int64(a.Mod)) }

func times(x, y *big.Int) *big.Int { return new(big.Int).Mul(x, y) }

func plus(x, y *big.Int) *big.Int { return new(big.Int).Add(x, y) }

func less(x, y *big.Int) *big.Int { return new(big.Int).Sub(x, y) }

// P70 to P72, P74: great ones, held against numbers of any size.
func TestGreat(t *testing.T) {
	r := rand.New(rand.NewSource(72))
	for range 20000 {
		a, b := great(r), great(r)
		if Valid(a) != nil || Valid(b) != nil {
			continue
		}
		ra, ma := bigs(a)
		rb, mb := bigs(b)
		wanted{a, b, bigLeast(ra, ma, mb, less(ra, rb))}.check(t, one("Join", Join))
		wanted{a, b, bigLeast(plus(ra, rb), ma, mb)}.check(t, one("Add", Add))
		wanted{a, b, bigLeast(less(ra, rb), ma, mb)}.check(t, one("Sub", Sub))
		wanted{a, b, bigLeast(times(ra, rb), times(ra, mb), times(rb, ma), times(ma, mb))}.check(t, one("Mul", Mul))
		n := r.Intn(2<<r.Intn(20)) - r.Intn(2<<r.Intn(20))
		if n < -modest || n > modest {
			continue
		}
		want := bigLeast(times(ra, big.NewInt(int64(n))), times(ma, big.NewInt(int64(n))))
		if x, err := Scale(a, n); x != want || err != nil {
			t.Error("Scale", a, n, x, err, "want", want)
		}
	}
}

// P71, P74: great ones that meet: what is told is of both, and its Mod is what both divide; or it is a.
func TestMeetGreat(t *testing.T) {
	r := rand.New(rand.NewSource(71))
	told := 0
	for range 100000 {
		a, b := great(r), great(r)
		if Valid(a) != nil || Valid(b) != nil {
			continue
		}
		_, ma := bigs(a)
		_, mb := bigs(b)
		common := new(big.Int).GCD(nil, nil, ma, mb)
		apart := big.NewInt(int64(b.Rest - a.Rest))
		none := common.Sign() == 0 && apart.Sign() != 0 || common.Sign() != 0 && new(big.Int).Mod(apart, common).Sign() != 0
		x, ok, err := Meet(a, b)
		if ok == none || err != nil || none && x != (Congr{}) {
			t.Fatal(a, b, x, ok, err)
		}
		if none {
			continue
		}
		mod := new(big.Int)
		if common.Sign() != 0 {
			mod.Div(times(ma, mb), common)
		}
		if mod.Cmp(big.NewInt(modest)) > 0 {
			if x != a {
				t.Error(a, b, x, "want", a)
			}
			continue
		}
		told++
		if Valid(x) != nil || x.Mod != int(mod.Int64()) || !Has(a, x.Rest) || !Has(b, x.Rest) {
			t.Error(a, b, x, mod)
		}
	}
	if told < 1000 {
		t.Error("too few are told", told)
	}
}

// P74: numbers of great congruences; what is done with them is of what is told.
func TestGreatHas(t *testing.T) {
	r := rand.New(rand.NewSource(74))
	for range 20000 {
		a, b := great(r), great(r)
		if Valid(a) != nil || Valid(b) != nil {
			continue
		}
		x, y := numberOf(r, a), numberOf(r, b)
		for _, w := range []struct {
			call
			l []*big.Int
		}{
			{one("Join", Join), []*big.Int{x, y}}, {one("Add", Add), []*big.Int{plus(x, y)}}, {one("Sub", Sub), []*big.Int{less(x, y)}}, {one("Mul", Mul), []*big.Int{times(x, y)}},
		} {
			z, _, err := w.of(a, b)
			for _, n := range w.l {
				if !hasBig(z, n) || err != nil {
					t.Error(w.name, a, b, z, err, "without", n)
				}
			}
		}
	}
}

// P73, P74: great ones: no number is lost, and each bound that is no greatest one is a number of both.
func TestTightGreat(t *testing.T) {
	r := rand.New(rand.NewSource(73))
	for range 50000 {
		a := great(r)
		n := r.Intn(2*most+1) - most
		b := between(max(n-r.Intn(4*modest), -most), min(n+r.Intn(4*modest), most))
		switch r.Intn(4) {
		case 0:
			b = from(n)
		case 1:
			b = to(n)
		}
		if Valid(a) != nil {
			continue
		}
		x, ok, err := Tight(a, b)
		if err != nil || interval.Valid(x) != nil {
			t.Fatal(a, b, x, ok, err)
		}
		if !ok {
			if k := nextOf(a, b); x != (api.Interval{}) || interval.Has(b, k) && Has(a, k) {
				t.Error(a, b, x, "without", k)
			}
			continue
		}
		checkBounds(t, a, b, x)
	}
}

// nextOf an interval's first number (or last, going down): a number of a, if there is one in both.
func nextOf(a Congr, b api.Interval) int {
	switch {
	case a.Mod == 0:
		return a.Rest
	case b.Down:
		return b.High - ((b.High-a.Rest)%a.Mod+a.Mod)%a.Mod
	}
	for n := b.Low; n < b.Low+a.Mod; n++ {
		if (n-a.Rest)%a.Mod == 0 {
			return n
		}
	}
	return b.Low
}

// checkBounds: each is of both and, Mod further out, no more of b.
func checkBounds(t *testing.T, a Congr, b, x api.Interval) {
	t.Helper()
	if a.Mod == 0 {
		if x != between(a.Rest, a.Rest) || !interval.Has(b, a.Rest) {
			t.Error(a, b, x)
		}
		return
	}
	if x.Down != b.Down || x.Up != b.Up {
		t.Error(a, b, x)
	}
	if !x.Down && (!interval.Has(b, x.Low) || !Has(a, x.Low) && x.Low != most || x.Low-a.Mod >= b.Low) {
		t.Error(a, b, x, "low")
	}
	if !x.Up && (!interval.Has(b, x.High) || !Has(a, x.High) && x.High != -most || x.High+a.Mod <= b.High) {
		t.Error(a, b, x, "high")
	}
}
