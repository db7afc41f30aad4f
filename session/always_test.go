package session

import (
	"errors"
	"fmt"
	"maps"
	"math/rand"
	"regexp"
	"slices"
	"strconv"
	"strings"
	"testing"

	"raycone/api"
	"raycone/ops"
	"raycone/poly"
)

// model of a session, by the document's words: all that there was behind each command, and which questions are kept.
type model struct {
	lines  []string
	states []map[string]api.Poly
	kept   map[string]bool
	asked  int
}

func newModel() *model {
	return &model{states: []map[string]api.Poly{{}}, kept: map[string]bool{}}
}

func (m *model) now() map[string]api.Poly { return m.states[len(m.states)-1] }

// forms of commands and questions, as patterns.
var forms = func() map[string]*regexp.Regexp {
	all := map[string]*regexp.Regexp{}
	for kind, form := range map[string]string{
		"intervals": `NAME = intervals( NUM NUM)+`, "point": `NAME = point( NUM)+`, "forget": `NAME = forget NAME (0|[1-9][0-9]{0,3})`,
		"meet": `NAME = meet NAME NAME`, "join": `NAME = join NAME NAME`, "widen": `NAME = widen NAME NAME`, "drop": `drop NAME`, "undo": `undo`,
		"empty": `empty NAME`, "rows": `rows NAME`, "text": `text NAME`, "within": `within NAME NAME`, "same": `same NAME NAME`,
	} {
		form = strings.ReplaceAll(form, "NAME", `[a-z]{1,8}`)
		all[kind] = regexp.MustCompile(`\A(?:` + strings.ReplaceAll(form, "NUM", `(?:0|-?[1-9][0-9]{0,3})`) + `)\z`)
	}
	return all
}()

// kindOf a line; none: it has no such form.
func kindOf(line string, kinds ...string) string {
	for _, kind := range kinds {
		if forms[kind].MatchString(line) {
			return kind
		}
	}
	return ""
}

// lone: what the words tell of a box or a point.
func lone(kind string, words []string) (api.Poly, error) {
	var text strings.Builder
	dim := 0
	for i := 0; i < len(words); i++ {
		if kind == "point" {
			fmt.Fprintf(&text, "x%d = %s\n", dim, words[i])
		} else {
			high, _ := strconv.Atoi(words[i+1])
			fmt.Fprintf(&text, "x%d >= %s\n-x%d >= %d\n", dim, words[i], dim, -high)
			i++
		}
		dim++
	}
	if dim > api.MaxDim {
		return api.Poly{}, api.ErrBound
	}
	p, err := poly.Read(dim, text.String())
	if err != nil {
		return p, err
	}
	return poly.Form(p)
}

func (m *model) do(line string) error {
	kind := kindOf(line, "intervals", "point", "forget", "meet", "join", "widen", "drop", "undo")
	if kind == "" {
		return api.ErrText
	}
	if kind == "undo" {
		if len(m.lines) == 0 {
			return api.ErrNone
		}
		m.change(m.lines[len(m.lines)-1])
		m.lines, m.states = m.lines[:len(m.lines)-1], m.states[:len(m.states)-1]
		return nil
	}
	if len(m.lines) == api.MaxLines {
		return api.ErrBound
	}
	w, next := strings.Split(line, " "), maps.Clone(m.now())
	if kind == "drop" {
		if _, ok := next[w[1]]; !ok {
			return api.ErrName
		}
		delete(next, w[1])
	} else {
		p, err := m.made(kind, w[3:])
		if err != nil {
			return err
		}
		next[w[0]] = p
	}
	m.lines, m.states = append(m.lines, line), append(m.states, next)
	m.change(line)
	return nil
}

func (m *model) made(kind string, w []string) (api.Poly, error) {
	if kind == "intervals" || kind == "point" {
		return lone(kind, w)
	}
	p, ok := m.now()[w[0]]
	if !ok {
		return p, api.ErrName
	}
	if kind == "forget" {
		x, _ := strconv.Atoi(w[1])
		return ops.Forget(p, x)
	}
	q, ok := m.now()[w[1]]
	if !ok {
		return p, api.ErrName
	}
	switch kind {
	case "meet":
		return ops.Meet(p, q)
	case "join":
		return ops.Join(p, q)
	}
	return ops.Widen(p, q, nil)
}

// change: what the line has to do with a name leaves no answer of it.
func (m *model) change(line string) {
	w := strings.Split(line, " ")
	name := w[0]
	if len(w) == 2 {
		name = w[1]
	}
	for q := range m.kept {
		if slices.Contains(strings.Split(q, " ")[1:], name) {
			delete(m.kept, q)
		}
	}
}

func (m *model) ask(line string) (string, error) {
	kind := kindOf(line, "empty", "rows", "text", "within", "same")
	if kind == "" {
		return "", api.ErrText
	}
	var of []api.Poly
	for _, name := range strings.Split(line, " ")[1:] {
		p, ok := m.now()[name]
		if !ok {
			return "", api.ErrName
		}
		of = append(of, p)
	}
	got, err := "", error(nil)
	is := false
	switch kind {
	case "text":
		got, err = poly.Text(of[0])
	case "rows":
		got = fmt.Sprint(len(of[0].Rows))
	case "empty":
		is, err = poly.Empty(of[0])
	case "within":
		is, err = poly.Within(of[0], of[1])
	case "same":
		is = fields(of[0]) == fields(of[1])
		if within, err := poly.Within(of[0], of[1]); err == nil {
			back, err := poly.Within(of[1], of[0])
			is = within && back && err == nil
		}
	}
	if err != nil {
		return "", err
	}
	if !m.kept[line] {
		m.kept[line] = true
		m.asked++
	}
	if got == "" && kind != "text" {
		got = map[bool]string{true: "yes", false: "no"}[is]
	}
	return got, nil
}

func (m *model) all() []string {
	l := []string{}
	for _, name := range slices.Sorted(maps.Keys(m.now())) {
		got, err := m.ask("text " + name)
		if err != nil {
			got = "?"
		}
		l = append(l, got)
	}
	return l
}

// lines at random.
type liner struct{ *rand.Rand }

func (r liner) one(l ...string) string { return l[r.Intn(len(l))] }

func (r liner) name() string { return r.one("a", "b", "c", "dd", "e", "a", "b", "c", "z") }

func (r liner) number() string {
	return r.one(strconv.Itoa(r.Intn(7)-3), strconv.Itoa(r.Intn(7)-3), strconv.Itoa(r.Intn(7)-3), strconv.Itoa(r.Intn(19999)-9999))
}

func (r liner) numbers(many int) string {
	s := ""
	for range many {
		s += " " + r.number()
	}
	return s
}

// command: mostly of two dimensions, as what is of unlike ones has nothing to do with each other.
func (r liner) command() string {
	dim := 2
	if r.Intn(6) == 0 {
		dim = 1 + r.Intn(6)
	}
	switch n := r.Intn(20); {
	case n < 4:
		return r.name() + " = intervals" + r.numbers(2*dim)
	case n < 7:
		return r.name() + " = point" + r.numbers(dim)
	case n < 14:
		return r.name() + " = " + r.one("meet ", "join ", "join ", "widen ") + r.name() + " " + r.name()
	case n < 15:
		return r.name() + " = forget " + r.name() + " " + strconv.Itoa(r.Intn(4))
	case n < 17:
		return "drop " + r.name()
	}
	return "undo"
}

func (r liner) question() string {
	if r.Intn(3) == 0 {
		return r.one("within ", "same ") + r.name() + " " + r.name()
	}
	return r.one("empty ", "rows ", "text ") + r.name()
}

// spoil a line by a byte more, less, or another one.
func (r liner) spoil(line string) string {
	at := r.Intn(len(line) + 1)
	more := r.one(" ", "0", "-", "1", "a", "=", "\n", "z", "Z", "\xff")
	cut := min(at+r.Intn(2), len(line))
	return line[:at] + r.one("", more) + line[cut:]
}

// P220 to P224, against the model: whatever is done and asked, in whatever order.
func TestAlways(t *testing.T) {
	seen := map[string]int{}
	for seed := range 150 {
		r := liner{rand.New(rand.NewSource(int64(seed)))}
		s, m := New(), newModel()
		for range 400 {
			line := r.command()
			ask := r.Intn(2) == 0
			if ask {
				line = r.question()
			}
			if r.Intn(8) == 0 {
				line = r.spoil(line)
			}
			if !ask || r.Intn(20) == 0 {
				want, got := m.do(line), s.Do(line)
				if got != want {
					t.Fatalf("%d: %q: %v, not %v", seed, line, got, want)
				}
				seen[fmt.Sprint("do ", got)]++
			} else {
				want, err := m.ask(line)
				got, err2 := s.Ask(line)
				if got != want || err != err2 {
					t.Fatalf("%d: %q: %q, %v, not %q, %v", seed, line, got, err2, want, err)
				}
				seen[fmt.Sprint("ask ", err2)]++
			}
			agree(t, seed, r, s, m)
			if r.Intn(40) == 0 {
				s = opened(t, s, m)
			}
		}
	}
	for _, kind := range []string{"do <nil>", "do raycone: text", "do raycone: bound", "do raycone: name", "do raycone: none", "do raycone: shape", "ask <nil>", "ask raycone: text", "ask raycone: name", "ask raycone: shape"} {
		if seen[kind] < 20 {
			t.Error(kind, seen)
		}
	}
}

// agree: the session is as the model says.
func agree(t *testing.T, seed int, r liner, s *Session, m *model) {
	t.Helper()
	names := s.Names()
	if want := slices.Sorted(maps.Keys(m.now())); !slices.Equal(names, want) {
		t.Fatal(seed, names, want)
	}
	for _, name := range append(names, "z") {
		want, ok := m.now()[name]
		got, err := s.Get(name)
		if fields(got) != fields(want) || ok != (err == nil) || !ok && err != api.ErrName {
			t.Fatal(seed, name, got, err, want)
		}
	}
	if r.Intn(15) == 0 {
		want := m.all()
		if got, err := s.All(1 + r.Intn(api.Workers)); !slices.Equal(got, want) || err != nil {
			t.Fatalf("%d: %q, %v, not %q", seed, got, err, want)
		}
	}
	if r.Intn(4) == 0 {
		if got := s.Asked(); got != m.asked {
			t.Fatal(seed, got, m.asked)
		}
		m.asked = 0
	}
}

// opened: the session again, by its journal.
func opened(t *testing.T, s *Session, m *model) *Session {
	t.Helper()
	want := ""
	for _, line := range m.lines {
		want += line + "\n"
	}
	text := s.Journal()
	if text != want {
		t.Fatalf("%q, not %q", text, want)
	}
	o, n, err := Open(text)
	if err != nil || n != len(m.lines) || o.Journal() != text {
		t.Fatal(n, err)
	}
	m.kept, m.asked = map[string]bool{}, 0
	return o
}

// P224: texts at random are opened as if each line were done.
func TestAlwaysOpen(t *testing.T) {
	seen := map[string]int{}
	for seed := range 3000 {
		r := liner{rand.New(rand.NewSource(int64(seed)))}
		m, text := newModel(), ""
		var want error
		at := 0
		for i := range 1 + r.Intn(12) {
			line := r.command()
			if r.Intn(10) == 0 {
				line = r.spoil(line)
			}
			last := r.Intn(30) == 0
			text += line
			if !last {
				text += "\n"
			}
			for k, one := range strings.Split(line, "\n") {
				cut := last && k == strings.Count(line, "\n")
				if want != nil || cut && one == "" {
					continue
				}
				at = i + k
				want = m.do(one)
				if one == "undo" || cut {
					want = api.ErrText
				}
			}
			if want != nil || last {
				break
			}
		}
		s, n, err := Open(text)
		var f *api.Fault
		switch {
		case want == nil && (err != nil || n != len(m.lines) || s.Journal() != text):
			t.Fatalf("%q: %d, %v", text, n, err)
		case want != nil && (s != nil || n != 0 || !errors.As(err, &f) || f.At != at || f.Err != want):
			t.Fatalf("%q: %d, %v, not %d, %v", text, n, err, at, want)
		}
		seen[fmt.Sprint(want)]++
	}
	for _, kind := range []string{"<nil>", "raycone: text", "raycone: name", "raycone: shape", "raycone: bound"} {
		if seen[kind] < 10 {
			t.Error(kind, seen)
		}
	}
}

// P4: what is answered is new memory.
func TestNewMemory(t *testing.T) {
	s := begun(t, "a = intervals 0 1 2 3", "b = forget a 0")
	p, err := s.Get("a")
	want := fields(p)
	if err != nil {
		t.Fatal(err)
	}
	for i := range p.Rows {
		for j := range p.Rows[i].A {
			p.Rows[i].A[j] = 77
		}
		p.Rows[i] = api.Row{B: 5, Eq: true}
	}
	names := s.Names()
	names[0] = "?"
	texts, err := s.All(2)
	if err != nil {
		t.Fatal(err)
	}
	texts[0] = "spoilt"
	if got, err := s.Get("a"); fields(got) != want || err != nil {
		t.Error(got, err)
	}
	if got := strings.Join(s.Names(), " "); got != "a b" {
		t.Error(got)
	}
	if got, err := s.All(2); err != nil || got[0] != "-x0 >= -1\n-x1 >= -3\nx1 >= 2\nx0 >= 0\n" {
		t.Error(got, err)
	}
	// nor do two answers, or what is taken back, share any
	q, err := s.Get("a")
	if err != nil {
		t.Fatal(err)
	}
	q.Rows[0].A[0] = 9
	do(t, s, "a = point 1", "undo")
	if got, err := s.Get("a"); fields(got) != want || err != nil {
		t.Error(got, err)
	}
}

// P1: Open tells no session with an error; who goes on with it does not fall.
func TestNone(t *testing.T) {
	s, _, err := Open("?")
	if s != nil || err == nil {
		t.Fatal(s, err)
	}
	if err := s.Do("undo"); err != api.ErrNone {
		t.Error(err)
	}
	if err := s.Do("a"); err != api.ErrText {
		t.Error(err)
	}
	if err := s.Do("drop a"); err != api.ErrName {
		t.Error(err)
	}
	_ = s.Do("a = point 1")
	if _, err := s.Get("a"); err != api.ErrName {
		t.Error(err)
	}
	if _, err := s.Ask("text a"); err != api.ErrName {
		t.Error(err)
	}
	if l, err := s.All(1); len(l) > 0 || err != nil {
		t.Error(l, err)
	}
	if len(s.Names()) > 0 || s.Asked() != 0 || s.Journal() != "" {
		t.Error("a session of none holds something")
	}
}
