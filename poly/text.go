package poly

import (
	"strconv"
	"strings"

	"raycone/api"
)

// maxDigits one behind the other in a text: an int holds any so long number.
const maxDigits = 18

// Text of rows.
func Text(p api.Poly) (string, error) {
	if err := Valid(p); err != nil {
		return "", err
	}
	var b strings.Builder
	for _, r := range p.Rows {
		b.WriteString(lineOf(r))
		b.WriteByte('\n')
	}
	return b.String(), nil
}

// Read rows.
func Read(dim int, s string) (api.Poly, error) {
	if !isDim(dim) || len(s) > api.MaxText {
		return api.Poly{}, api.ErrBound
	}
	p := api.Poly{Dim: dim}
	for rest := s; rest != ""; {
		line, behind, ended := strings.Cut(rest, "\n")
		r, ok := readLine(dim, line)
		if !ended || !ok {
			return api.Poly{}, &api.Fault{At: len(p.Rows), Err: api.ErrText}
		}
		p.Rows = append(p.Rows, r)
		rest = behind
	}
	if Valid(p) != nil {
		return api.Poly{}, api.ErrBound
	}
	return p, nil
}

// lineOf a row, without its end.
func lineOf(r api.Row) string {
	var b strings.Builder
	for i, n := range r.A {
		if n != 0 {
			b.WriteString(termOf(n, i, b.Len() == 0))
		}
	}
	if b.Len() == 0 {
		b.WriteString("0")
	}
	if r.Eq {
		b.WriteString(" = ")
	} else {
		b.WriteString(" >= ")
	}
	b.WriteString(strconv.Itoa(r.B))
	return b.String()
}

// termOf a number, other than 0, of the variable i.
func termOf(n, i int, first bool) string {
	term := "x" + strconv.Itoa(i)
	if size := max(n, -n); size != 1 {
		term = strconv.Itoa(size) + " " + term
	}
	switch {
	case first && n > 0:
		return term
	case first:
		return "-" + term
	case n > 0:
		return " + " + term
	}
	return " - " + term
}

// readLine takes a row out of a line, without its end.
func readLine(dim int, line string) (api.Row, bool) {
	sum, last, isLeast := strings.Cut(line, " >= ")
	if !isLeast {
		sum, last, _ = strings.Cut(line, " = ")
	}
	a, isSum := readSum(dim, sum)
	b, isNumber := readNumber(last)
	r := api.Row{Eq: !isLeast, A: a, B: b}
	// What is taken for a row may be written in many ways: just one of them is its text.
	return r, isSum && isNumber && lineOf(r) == line
}

// readSum takes the numbers of variables out of all texts of sums, and of others.
func readSum(dim int, sum string) ([]int, bool) {
	a := make([]int, dim)
	if sum == "0" {
		return a, true
	}
	n, sign := 1, 1
	for _, word := range strings.Split(sum, " ") {
		if rest, ok := strings.CutPrefix(word, "-"); ok {
			word, sign = rest, -1
		}
		if word == "" || word == "+" {
			continue
		}
		name, isName := strings.CutPrefix(word, "x")
		value, ok := readNumber(name)
		switch {
		case !ok || isName && (value < 0 || value >= dim):
			return nil, false
		case isName:
			a[value] = sign * n
			n, sign = 1, 1
		default:
			n = value
		}
	}
	return a, true
}

func readNumber(s string) (int, bool) {
	if len(strings.TrimPrefix(s, "-")) > maxDigits {
		return 0, false
	}
	n, err := strconv.Atoi(s)
	return n, err == nil
}
