package session

import (
	"maps"
	"slices"
	"strconv"
	"sync"

	"raycone/api"
	"raycone/poly"
)

// answer to a question, and of which names it was asked.
type answer struct {
	text string
	of   []string
}

// kept are answers by their questions, until one of their names changes. (A question has but one text.)
type kept struct {
	first   sync.Once
	answers map[string]answer
	asked   int
}

// keep an answer that was worked out.
func (k *kept) keep(line string, a answer) {
	k.first.Do(func() { k.answers = map[string]answer{} })
	k.answers[line] = a
	k.asked++
}

// leave the answers of a name.
func (k *kept) leave(name string) {
	maps.DeleteFunc(k.answers, func(_ string, a answer) bool { return slices.Contains(a.of, name) })
}

// Ask a question.
func (s *Session) Ask(line string) (string, error) {
	s = s.there()
	q, ok := readQuestion(line)
	if !ok {
		return "", api.ErrText
	}
	of, ok := s.named(q.of)
	if !ok {
		return "", api.ErrName
	}
	if a, ok := s.answers[line]; ok {
		return a.text, nil
	}
	text, err := workedOut(q.verb, of)
	if err != nil {
		return "", err
	}
	s.keep(line, answer{text: text, of: q.of})
	return text, nil
}

// workedOut answer to a question.
func workedOut(verb string, of []api.Poly) (string, error) {
	switch verb {
	case "empty":
		is, err := poly.Empty(of[0])
		return yes(is), err
	case "within":
		is, err := poly.Within(of[0], of[1])
		return yes(is), err
	case "same":
		return yes(same(of[0], of[1])), nil
	case "rows":
		return strconv.Itoa(len(of[0].Rows)), nil
	}
	return poly.Text(of[0])
}

func yes(is bool) string {
	if is {
		return "yes"
	}
	return "no"
}

// same points: as both are in form, just if the forms are the same.
func same(p, q api.Poly) bool {
	return p.Dim == q.Dim && slices.EqualFunc(p.Rows, q.Rows, func(r, s api.Row) bool {
		return r.Eq == s.Eq && r.B == s.B && slices.Equal(r.A, s.A)
	})
}

// Asked: how many answers were worked out.
func (s *Session) Asked() int {
	s = s.there()
	n := s.asked
	s.asked = 0
	return n
}
