package session

import (
	"strconv"
	"strings"

	"raycone/api"
)

// command that was read: what is made or dropped, of which names that must be there, and its numbers.
type command struct {
	verb, name string
	of         []string
	numbers    []int
}

// readCommand tells false of what is none.
func readCommand(line string) (command, bool) {
	w := strings.Split(line, " ")
	switch {
	case line == "undo":
		return command{verb: "undo"}, true
	case len(w) == 2 && w[0] == "drop":
		return command{verb: "drop", name: w[1], of: w[1:]}, areNames(w[1:])
	case len(w) > 3 && w[1] == "=":
		c, ok := readMaking(w[2], w[3:])
		c.name = w[0]
		return c, ok && isName(w[0])
	}
	return command{}, false
}

// readMaking of a thing, by the words behind its name.
func readMaking(verb string, w []string) (command, bool) {
	switch verb {
	case "intervals":
		l, ok := readNumbers(w)
		return command{verb: verb, numbers: l}, ok && len(l)%2 == 0
	case "point":
		l, ok := readNumbers(w)
		return command{verb: verb, numbers: l}, ok
	case "meet", "join", "widen":
		return command{verb: verb, of: w}, len(w) == 2 && areNames(w)
	case "forget":
		if len(w) != 2 || !isName(w[0]) {
			return command{}, false
		}
		v, ok := readNumber(w[1])
		return command{verb: verb, of: w[:1], numbers: []int{v}}, ok && v >= 0
	}
	return command{}, false
}

// question that was read: of which names it is asked.
type question struct {
	verb string
	of   []string
}

// readQuestion tells false of what is none.
func readQuestion(line string) (question, bool) {
	w := strings.Split(line, " ")
	many := 0
	switch w[0] {
	case "empty", "rows", "text":
		many = 1
	case "within", "same":
		many = 2
	}
	q := question{verb: w[0], of: w[1:]}
	return q, many > 0 && len(q.of) == many && areNames(q.of)
}

func isName(s string) bool {
	for _, c := range []byte(s) {
		if c < 'a' || c > 'z' {
			return false
		}
	}
	return 0 < len(s) && len(s) <= api.MaxName
}

func areNames(l []string) bool {
	for _, s := range l {
		if !isName(s) {
			return false
		}
	}
	return true
}

// readNumber of at most four digits, without needless ones.
func readNumber(s string) (int, bool) {
	digits, below := strings.CutPrefix(s, "-")
	if len(digits) < 1 || len(digits) > 4 {
		return 0, false
	}
	for _, c := range []byte(digits) {
		if c < '0' || c > '9' {
			return 0, false
		}
	}
	if digits[0] == '0' && (below || len(digits) > 1) {
		return 0, false
	}
	n, err := strconv.Atoi(s)
	return n, err == nil
}

func readNumbers(w []string) ([]int, bool) {
	var l []int
	for _, s := range w {
		n, ok := readNumber(s)
		if !ok {
			return nil, false
		}
		l = append(l, n)
	}
	return l, true
}
