package plan

import "raycone/wide"

// table of a plan (DANTZIG): a line for each wanted number, then a line of what is lacking, then one of what is gained. A line has a number for each column and, behind them, what is wanted, never below 0 but in the line of gain. All numbers are over den, which is above 0.
type table struct {
	lines []wide.Row
	base  []int // for each of the first lines the column that has its weight there; a number behind all columns: none has
	den   wide.Num
}

func tableOf(columns []Part, wanted wide.Row) *table {
	t := &table{den: wide.From(1)}
	lack, gain := make(wide.Row, len(columns)+1), make(wide.Row, len(columns)+1)
	for j, c := range columns {
		gain[j] = c.Gain
	}
	one := wide.From(1)
	for i, n := range wanted {
		line := make(wide.Row, 0, len(columns)+1)
		for _, c := range columns {
			line = append(line, c.Row[i])
		}
		line = append(line, n)
		if n.Sign() < 0 {
			line = line.Each(wide.Num.Negated)
		}
		t.lines = append(t.lines, line)
		t.base = append(t.base, len(columns)+i)
		lack = lack.Sum(one, line, one)
	}
	t.lines = append(t.lines, lack, gain)
	return t
}

func (t *table) lack() int { return len(t.base) }

func (t *table) gain() int { return len(t.base) + 1 }

func (t *table) width() int { return len(t.lines[t.gain()]) - 1 }

func (t *table) wanted(line int) wide.Num { return t.lines[line][t.width()] }

// fill the lines with weights, so that nothing is lacking, and tell whether that can be done.
func (t *table) fill() bool {
	t.climb(t.lack(), func() bool { return false })
	if t.wanted(t.lack()).Sign() > 0 {
		return false
	}
	// A line that no column has yet wants 0 by now; it is given one, or weights that come later could make up something else there.
	for i, column := range t.base {
		if column >= t.width() {
			t.settle(i)
		}
	}
	return true
}

// settle a line that wants 0: give it a column, if one is other than 0 in it.
func (t *table) settle(line int) {
	column := t.lines[line].Pivot()
	if column < 0 {
		return
	}
	if t.lines[line][column].Sign() < 0 {
		t.lines[line] = t.lines[line].Each(wide.Num.Negated)
	}
	t.swap(line, column)
}

// climb as long as the goal's line has a column that brings more, and it is not enough; tell the column that brings more without end, or -1.
// Of columns that come or go the first one is taken: so no table comes back (BLAND), and it ends.
func (t *table) climb(goal int, enough func() bool) int {
	for !enough() {
		column := t.lines[goal][:t.width()].First(func(n wide.Num) bool { return n.Sign() > 0 })
		if column < 0 {
			return -1
		}
		line := t.tightest(column)
		if line < 0 {
			return column
		}
		t.swap(line, column)
	}
	return -1
}

// tightest line: the one that first comes to 0 as the column's weight rises; -1: none ever does.
func (t *table) tightest(column int) int {
	best := -1
	for i := range t.base {
		if t.lines[i][column].Sign() > 0 && (best < 0 || t.isTighter(i, best, column)) {
			best = i
		}
	}
	return best
}

func (t *table) isTighter(line, other, column int) bool {
	x := t.wanted(line).Times(t.lines[other][column])
	y := t.wanted(other).Times(t.lines[line][column])
	order := x.Compare(y)
	return order < 0 || order == 0 && t.base[line] < t.base[other]
}

// swap the line's column for another one, which has a number above 0 in it.
func (t *table) swap(line, column int) {
	wide.ClearColumn(t.lines, line, column, t.den)
	t.den = t.lines[line][column]
	t.base[line] = column
}

// weights of the columns, den behind them.
func (t *table) weights() wide.Row {
	return t.spread(t.den, func(line wide.Row) wide.Num { return line[t.width()] })
}

// endless weights: how those of the columns rise with the one that brings more without end; 0 behind them.
func (t *table) endless(column int) wide.Row {
	l := t.spread(wide.Num{}, func(line wide.Row) wide.Num { return line[column].Negated() })
	l[column] = t.den
	return l
}

// spread what is asked of each line over the columns, last behind them.
func (t *table) spread(last wide.Num, ask func(line wide.Row) wide.Num) wide.Row {
	l := make(wide.Row, t.width()+1)
	for i, column := range t.base {
		if column < t.width() {
			l[column] = ask(t.lines[i])
		}
	}
	l[t.width()] = last
	return l
}
