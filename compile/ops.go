package compile

import "raycone/api"

// operation: how many numbers it takes from the stack, and gives to it; how many there are of what its N is the number of (nil: of nothing); and what it does, where all this is so.
type operation struct {
	takes, gives int
	many         func(c Code) int
	do           func(r *run, n int)
}

// operations by the names of their ops.
func operations() map[string]operation {
	return map[string]operation{
		"push":    {gives: 1, do: (*run).push},
		"load":    {gives: 1, many: variables, do: func(r *run, n int) { r.push(r.Vars[n]) }},
		"store":   {takes: 1, many: variables, do: func(r *run, n int) { r.Vars[n] = r.pop() }},
		"get":     {takes: 1, gives: 1, many: arrays, do: (*run).get},
		"put":     {takes: 2, many: arrays, do: (*run).put},
		"neg":     {takes: 1, gives: 1, do: func(r *run, _ int) { r.push(-r.pop()) }},
		"add":     joined(func(a, b int) int { return a + b }),
		"sub":     joined(func(a, b int) int { return a - b }),
		"mul":     joined(product),
		"div":     divided(func(a, b int) int { return a / b }),
		"rem":     divided(func(a, b int) int { return a % b }),
		"read":    {gives: 1, do: (*run).read},
		"jump":    {many: places, do: func(r *run, n int) { r.at = n }},
		"unless":  {takes: 1, many: places, do: (*run).unless},
		"lt":      compared(func(a, b int) bool { return a < b }),
		"le":      compared(func(a, b int) bool { return a <= b }),
		"eq":      compared(func(a, b int) bool { return a == b }),
		"ne":      compared(func(a, b int) bool { return a != b }),
		"assert":  asked("failed", 0, isNot0),
		"assume":  asked("stuck", 0, isNot0),
		"halt":    {do: func(r *run, _ int) { r.Kind = "done" }},
		"nonzero": asked("wrong", 1, isNot0),
		"within":  asked("wrong", 1, func(top, n int) bool { return top >= 0 && top < n }),
		"small":   asked("wrong", 1, func(top, _ int) bool { return !isAbove(api.MaxValue, top) }),
	}
}

func variables(c Code) int { return c.Vars }

func arrays(c Code) int { return len(c.Arrays) }

// places to which a jump may lead: behind the last op, too.
func places(c Code) int { return len(c.Ops) + 1 }

func isNot0(top, _ int) bool { return top != 0 }

// joined: of two numbers one is made.
func joined(do func(a, b int) int) operation {
	return operation{takes: 2, gives: 1, do: func(r *run, _ int) {
		b, a := r.pop(), r.pop()
		r.push(do(a, b))
	}}
}

// divided: joined, by a number that is not 0.
func divided(do func(a, b int) int) operation {
	return operation{takes: 2, gives: 1, do: func(r *run, _ int) {
		b, a := r.pop(), r.pop()
		if b == 0 {
			r.fails()
			return
		}
		r.push(do(a, b))
	}}
}

// compared: it is 1 if two numbers stand so to each other.
func compared(holds func(a, b int) bool) operation {
	return joined(func(a, b int) int {
		if holds(a, b) {
			return 1
		}
		return 0
	})
}

// asked: where the top is not so, the run ends. What checks alone leaves the top (gives 1).
func asked(kind string, gives int, holds func(top, n int) bool) operation {
	return operation{takes: 1, gives: gives, do: func(r *run, n int) {
		top := r.pop()
		if !holds(top, n) {
			r.Kind = kind
		}
		if gives > 0 {
			r.push(top)
		}
	}}
}

// product of two numbers, or the greatest that is told, with its sign.
func product(a, b int) int {
	sizeA, sizeB := max(a, -a), max(b, -b)
	switch {
	case a == 0 || sizeB <= api.MaxTold/sizeA:
		return a * b
	case (a < 0) == (b < 0):
		return api.MaxTold
	}
	return -api.MaxTold
}

func (r *run) get(n int) {
	if p := r.place(n, r.pop()); p != nil {
		r.push(*p)
	}
}

func (r *run) put(n int) {
	number, at := r.pop(), r.pop()
	if p := r.place(n, at); p != nil {
		*p = number
	}
}

func (r *run) read(int) {
	if len(r.input) == 0 {
		r.Kind = "wrong"
		return
	}
	r.push(r.input[0])
	r.input = r.input[1:]
}

func (r *run) unless(n int) {
	if r.pop() == 0 {
		r.at = n
	}
}
