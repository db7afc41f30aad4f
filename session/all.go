package session

import (
	"sync"

	"raycone/api"
	"raycone/poly"
)

// All texts, side by side.
func (s *Session) All(workers int) ([]string, error) {
	s = s.there()
	if workers < 1 || workers > api.Workers {
		return nil, api.ErrShape
	}
	names := s.Names()
	l := make([]string, len(names))
	var open []int
	var of []api.Poly
	for i, name := range names {
		if a, ok := s.answers["text "+name]; ok {
			l[i] = a.text
		} else {
			open, of = append(open, i), append(of, s.things[name])
		}
	}
	for i, t := range texts(workers, of) {
		name := names[open[i]]
		if t.err != nil {
			l[open[i]] = "?"
			continue
		}
		l[open[i]] = t.text
		s.keep("text "+name, answer{text: t.text, of: []string{name}})
	}
	return l, nil
}

// told of a polyhedron: its place in the list, and its text.
type told struct {
	at   int
	text string
	err  error
}

// texts worked out side by side. Who hands out is who takes in, by one select: so no worker waits for one who waits for it.
func texts(workers int, of []api.Poly) []told {
	places, back := make(chan int), make(chan told)
	var all sync.WaitGroup
	many := min(workers, len(of))
	all.Add(many)
	for range many {
		go func() {
			defer all.Done()
			for at := range places {
				text, err := poly.Text(of[at])
				back <- told{at: at, text: text, err: err}
			}
		}()
	}
	l := make([]told, len(of))
	for sent, come := 0, 0; come < len(of); {
		next := places
		if sent == len(of) {
			next = nil
		}
		select {
		case next <- sent:
			sent++
		case t := <-back:
			l[t.at] = t
			come++
		}
	}
	close(places)
	all.Wait()
	return l
}
