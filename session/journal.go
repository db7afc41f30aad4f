package session

import (
	"strings"

	"raycone/api"
)

// Journal of commands.
func (s *Session) Journal() string {
	var b strings.Builder
	for _, d := range s.there().done {
		b.WriteString(d.line)
		b.WriteByte('\n')
	}
	return b.String()
}

// Open a journal.
func Open(text string) (*Session, int, error) {
	s := New()
	for text != "" {
		line, rest, ended := strings.Cut(text, "\n")
		err := api.ErrText
		if ended && line != "undo" {
			err = s.Do(line)
		}
		if err != nil {
			return nil, 0, &api.Fault{At: len(s.done), Err: err}
		}
		text = rest
	}
	return s, len(s.done), nil
}
