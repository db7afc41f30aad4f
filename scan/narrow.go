package scan

import (
	"raycone/api"
	"raycone/interval"
)

// narrow the state to what it has where a node comes to a number of to, which are some of those that it has. False: there is nothing.
func (v view) narrow(n node, to api.Interval) bool {
	switch n.Op {
	case "var":
		return cut(v.variable(n.Name), to)
	case "at":
		return v.narrowPlace(n, to)
	case "neg":
		return v.narrowPart(n, 0, zero(), "-", to)
	case "+":
		return v.narrowPart(n, 0, to, "-", n.parts[1].has) && v.narrowPart(n, 1, to, "-", n.parts[0].has)
	case "-":
		return v.narrowPart(n, 0, to, "+", n.parts[1].has) && v.narrowPart(n, 1, n.parts[0].has, "-", to)
	case "*":
		return v.narrowFactor(n, 0, to) && v.narrowFactor(n, 1, to)
	case "/":
		return v.narrowDivided(n, to) && v.narrowDivisor(n)
	case "%":
		return v.narrow(n.parts[0], n.parts[0].has) && v.narrowDivisor(n)
	}
	return true
}

// cut an interval to what it has of another one.
func cut(a *api.Interval, to api.Interval) bool {
	x, ok := meet(*a, to)
	*a = x
	return ok
}

// narrowPart of a node to what two others make.
func (v view) narrowPart(n node, number int, a api.Interval, sign string, b api.Interval) bool {
	part := n.parts[number]
	to, ok := made(a, sign, b, part.has)
	return ok && v.narrow(part, to)
}

// narrowPlace of an array: it is one of its places; and what stands there is known of an array with one place alone.
func (v view) narrowPlace(n node, to api.Interval) bool {
	array, all := v.array(n.Name)
	if array.Size == 1 && !cut(all, to) {
		return false
	}
	at, ok := meet(n.parts[0].has, places(array))
	return ok && v.narrow(n.parts[0], at)
}

// narrowFactor of a product: it is the product over the other factor, where that is not 0; where both can be 0, the factor can be anything.
func (v view) narrowFactor(n node, number int, to api.Interval) bool {
	part, other := n.parts[number], n.parts[1-number].has
	if interval.Has(to, 0) && interval.Has(other, 0) {
		return v.narrow(part, part.has)
	}
	return v.narrowPart(n, number, to, "/", other)
}

// narrowDivided: it is the quotient times the divisor, and what is left.
func (v view) narrowDivided(n node, to api.Interval) bool {
	a, b := n.parts[0].has, n.parts[1].has
	products, wrong := interval.Mul(to, b)
	rest, ok, _ := interval.Rem(a, b)
	return ok && wrong == nil && v.narrowPart(n, 0, products, "+", rest)
}

// narrowDivisor: it is not 0.
func (v view) narrowDivisor(n node) bool {
	part := n.parts[1]
	to, _, ok, _ := interval.Refine(part.has, zero(), "!=")
	return ok && v.narrow(part, to)
}
