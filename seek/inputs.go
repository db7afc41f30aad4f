package seek

import "slices"

// longest input that is tried.
const longest = 3

// outcome of an input.
type outcome int

const (
	ended outcome = iota // with more numbers it would be the same
	asks                 // with more numbers it may be otherwise
	found                // it is what is sought
)

// numbers up to a size, the least ones first.
func numbers(size int) []int {
	l := []int{0}
	for n := range size {
		l = append(l, n+1, -n-1)
	}
	return l
}

// first input of these numbers that is found, shorter ones first, of one length in the order of the numbers.
func first(numbers []int, try func(input []int) outcome) ([]int, bool) {
	inputs := [][]int{nil}
	for range longest {
		input, asking, ok := tried(inputs, try)
		if ok {
			return input, true
		}
		inputs = lengthened(asking, numbers)
	}
	input, _, ok := tried(inputs, try)
	return input, ok
}

// tried inputs, up to the first that is found; and which ask for more.
func tried(inputs [][]int, try func(input []int) outcome) (input []int, asking [][]int, ok bool) {
	for _, input := range inputs {
		switch try(input) {
		case found:
			return input, nil, true
		case asks:
			asking = append(asking, input)
		}
	}
	return nil, asking, false
}

// lengthened: each input by each of the numbers.
func lengthened(inputs [][]int, numbers []int) [][]int {
	var l [][]int
	for _, input := range inputs {
		for _, n := range numbers {
			l = append(l, append(slices.Clip(input), n))
		}
	}
	return l
}
