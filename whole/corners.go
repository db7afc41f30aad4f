package whole

import (
	"raycone/exact"
	"raycone/wide"
)

// corners of a polygon, all over one number, which is above 0.
type corners struct {
	points []wide.Row
	den    wide.Num
}

func cornersOf(p exact.Poly) corners {
	c := corners{den: wide.From(1)}
	for _, x := range p.Rays {
		c.den = c.den.Times(x[2].Over(wide.Divisor(c.den, x[2])))
	}
	for _, x := range p.Rays {
		often := c.den.Over(x[2])
		c.points = append(c.points, x[:2].Each(often.Times))
	}
	return c
}

// span of a row over the corners, of which there are some: the least and the most.
func (c corners) span(row wide.Row) (least, most wide.Num) {
	for i, x := range c.points {
		value := row.Dot(x)
		if i == 0 || value.Compare(least) < 0 {
			least = value
		}
		if i == 0 || value.Compare(most) > 0 {
			most = value
		}
	}
	return least, most
}

// levels: the first and the last whole number that a row may be at a point.
func (c corners) levels(row wide.Row) (low, high wide.Num) {
	least, most := c.span(row)
	return least.Negated().Floor(c.den).Negated(), most.Floor(c.den)
}

// width across a row.
func (c corners) width(row wide.Row) wide.Num {
	least, most := c.span(row)
	return most.Minus(least)
}

// narrowest row of whole numbers, and one that makes all others with it (GAUSS): the other one is made as narrow as it can be by the first one, and they change places as long as that helps.
func (c corners) narrowest() (across, along wide.Row) {
	across, along = wide.RowOf([]int{1, 0}), wide.RowOf([]int{0, 1})
	for {
		if c.width(along).Compare(c.width(across)) < 0 {
			across, along = along, across
		}
		if c.width(across).Sign() == 0 {
			return across, along
		}
		along = c.reduced(along, across)
		if c.width(along).Compare(c.width(across)) >= 0 {
			return across, along
		}
	}
}

// reduced row, by as many of another one as make it the narrowest. The width falls up to there, and rises from there on.
func (c corners) reduced(row, by wide.Row) wide.Row {
	less := func(often wide.Num) wide.Row { return row.Sum(wide.From(1), by, often.Negated()) }
	// By more than that it is broader than by none.
	high := c.width(row).Times(wide.From(2)).Over(c.width(by)).Plus(wide.From(1))
	low := high.Negated()
	for low.Compare(high) < 0 {
		middle := low.Plus(high).Floor(wide.From(2))
		next := middle.Plus(wide.From(1))
		if c.width(less(middle)).Compare(c.width(less(next))) <= 0 {
			high = middle
		} else {
			low = next
		}
	}
	return less(low)
}
