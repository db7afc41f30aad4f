package wide

import "slices"

// Reduced rows of m, whose rows are of one length: each is Normal, its pivot is above 0, alone in its column, and right of those ahead.
func Reduced(m []Row) []Row {
	l := slices.Clone(m)
	done, last := 0, From(1)
	for column := range width(l) {
		at := slices.IndexFunc(l[done:], func(r Row) bool { return r[column].Sign() != 0 })
		if at < 0 {
			continue
		}
		l[done], l[done+at] = l[done+at], l[done]
		ClearColumn(l, done, column, last)
		last = l[done][column]
		done++
	}
	for i, r := range l[:done] {
		l[i] = rising(r.Normal())
	}
	return l[:done]
}

func width(m []Row) int {
	if len(m) == 0 {
		return 0
	}
	return len(m[0])
}

// ClearColumn takes the row at out of all others of m, so that they have 0 in the column; last is the pivot of the call ahead, 1 if there was none.
// All numbers stay minors of the first matrix, so they divide by the last pivot without a rest, and no fraction comes up (BAREISS).
func ClearColumn(m []Row, at, column int, last Num) {
	by := m[at]
	pivot := by[column]
	for i, r := range m {
		if i == at {
			continue
		}
		often := r[column]
		m[i] = r.With(by, func(x, y Num) Num {
			return x.Times(pivot).Minus(y.Times(often)).Over(last)
		})
	}
}

// rising is the row, or its opposite, of which the pivot is above 0.
func rising(r Row) Row {
	if at := r.Pivot(); at >= 0 && r[at].Sign() < 0 {
		return r.Each(Num.Negated)
	}
	return r
}

// Rest of r, times something above 0, when reduced rows of its length are taken out of it: Normal, with 0 in the columns of their pivots.
func (r Row) Rest(reduced []Row) Row {
	for _, by := range reduced {
		at := by.Pivot()
		if r[at].Sign() == 0 {
			continue
		}
		// The pivot is above 0: so r keeps its sign. Normal at once, or numbers grow with each row.
		r = r.Sum(by[at], by, r[at].Negated()).Normal()
	}
	return r.Normal()
}
