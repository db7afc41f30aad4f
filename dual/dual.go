// Package dual: cones by rows of numbers of any size, and what makes them.
package dual

import (
	"math"
	"slices"

	"raycone/wide"
)

// Generators of the cone of all x of dim numbers with r·x from 0 on for each row r of up, and 0 for each of even: its rays and lines, in form (P21).
// Handed the rays and lines of a cone in the place of up and even, it tells the rows of that cone, in form: they are what makes the cone of all rows that hold on it (FARKAS).
func Generators(dim int, up, even []wide.Row) (rays, lines []wide.Row) {
	return FewGenerators(dim, up, even, math.MaxInt)
}

// FewGenerators are all Generators, if these have at most so many rays: else one ray more than that. So much is told long ahead of all of them, of which there may be thousands.
func FewGenerators(dim int, up, even []wide.Row, most int) (rays, lines []wide.Row) {
	b := builder{lines: units(dim)}
	for _, r := range even {
		b.takeLine(r)
	}
	b.whole = len(b.lines)
	b.takeLines(up)
	b.takeRays(up, most)
	return b.form()
}

func units(dim int) []wide.Row {
	l := make([]wide.Row, dim)
	for i := range l {
		l[i] = make(wide.Row, dim)
		l[i][i] = wide.From(1)
	}
	return l
}

// builder takes rows in, one by one (MOTZKIN). Its rays and lines make the cone of the rows that it has; no ray is a sum of others and lines.
type builder struct {
	whole int // how many lines there were ahead of the first row that holds one way
	taken int // how many rows that hold one way were taken in: each has its number by that
	lines []wide.Row
	rays  []ray
}

type ray struct {
	row    wide.Row
	flat   places // the rows that were taken in, by their numbers, that are 0 on it
	isSure bool   // no row is below 0 on it: it stays
}

// takeLine takes one line out, turned so that r is above 0 on it, and makes r 0 on all lines and rays that are left; false: r is 0 on each line, and nothing is done.
func (b *builder) takeLine(r wide.Row) (line wide.Row, ok bool) {
	at := slices.IndexFunc(b.lines, func(l wide.Row) bool { return r.Dot(l).Sign() != 0 })
	if at < 0 {
		return nil, false
	}
	line = b.lines[at]
	if r.Dot(line).Sign() < 0 {
		line = line.Each(wide.Num.Negated)
	}
	value := r.Dot(line)
	// The value is above 0: so a ray keeps its way.
	flatten := func(l wide.Row) wide.Row { return l.Sum(value, line, r.Dot(l).Negated()).Normal() }
	b.lines = slices.Delete(b.lines, at, at+1)
	for i, l := range b.lines {
		b.lines[i] = flatten(l)
	}
	for i, g := range b.rays {
		b.rays[i].row = flatten(g.row)
	}
	return line, true
}

// takeLines takes in rows until all of them are 0 on each line that is left.
func (b *builder) takeLines(up []wide.Row) {
	for _, r := range up {
		if line, ok := b.takeLine(r); ok {
			for i, g := range b.rays {
				b.rays[i].flat = g.flat.with(b.taken)
			}
			// On a line all rows ahead are 0.
			b.rays = append(b.rays, ray{row: line, flat: placesBelow(b.taken)})
			b.taken++
		}
	}
}

// takeRays takes in rows until all rays are sure, or more than most.
// A row is taken in only if it cuts a ray, the deepest one first; and the ray that came last is asked first: so rays are sure, and can be counted, early.
func (b *builder) takeRays(up []wide.Row, most int) {
	for sure := 0; sure <= most; {
		at := len(b.rays) - 1
		for at >= 0 && b.rays[at].isSure {
			at--
		}
		if at < 0 {
			return
		}
		if r, ok := deepest(up, b.rays[at].row); ok {
			b.cut(r)
			continue
		}
		b.rays[at].isSure = true
		sure++
	}
}

// deepest row below 0 on a ray; false: there is none.
func deepest(up []wide.Row, on wide.Row) (row wide.Row, ok bool) {
	var depth wide.Num
	for _, r := range up {
		if value := r.Dot(on); value.Compare(depth) < 0 {
			row, depth = r, value
		}
	}
	return row, depth.Sign() < 0
}

// cut leaves the rays at which r is not below 0, and those in which it cuts the face of two others.
func (b *builder) cut(r wide.Row) {
	var above, below, left []ray
	for _, g := range b.rays {
		switch r.Dot(g.row).Sign() {
		case 1:
			above = append(above, g)
		case 0:
			left = append(left, ray{g.row, g.flat.with(b.taken), g.isSure})
		case -1:
			below = append(below, g)
		}
	}
	left = append(left, above...)
	for _, x := range above {
		for _, y := range below {
			if both := x.flat.both(y.flat); b.isFace(both) {
				row := y.row.Sum(r.Dot(x.row), x.row, r.Dot(y.row).Negated()).Normal()
				left = append(left, ray{row: row, flat: both.with(b.taken)})
			}
		}
	}
	b.rays = left
	b.taken++
}

// isFace tells whether two rays with these rows flat on both have a face of their own: whether the rows are flat on no third one.
func (b *builder) isFace(both places) bool {
	// On a face of two rays there are so many rows that do not hang on each other.
	if both.count() < b.whole-len(b.lines)-2 {
		return false
	}
	rays := 0
	for _, g := range b.rays {
		if both.within(g.flat) {
			rays++
		}
	}
	return rays == 2
}

func (b *builder) form() (rays, lines []wide.Row) {
	lines = wide.Reduced(b.lines)
	for _, g := range b.rays {
		if g.isSure {
			rays = append(rays, g.row.Rest(lines))
		}
	}
	slices.SortFunc(rays, wide.Row.Compare)
	return rays, lines
}
