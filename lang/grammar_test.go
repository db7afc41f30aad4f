package lang

import (
	"errors"
	"math/rand"
	"regexp"
	"slices"
	"strconv"
	"strings"
	"testing"

	"raycone/api"
)

// keywords of texts: no names.
func keywords() []string {
	return strings.Fields("var array proc return main call if else while assert assume read false true or and")
}

// grammar of P101, as it stands there: by the name of each thing, the ways in which it is made; n is a name, d a number.
func grammar() map[string][][]string {
	g := map[string][][]string{}
	for thing, ways := range map[string]string{
		"PROGRAM": "VARS ARRAYS PROCS main { STMTS }",
		"VARS":    "| var n ; VARS",
		"ARRAYS":  "| array n [ d ] ; ARRAYS",
		"PROCS":   "| proc n ( NAMES ) { STMTS return TERM ; } PROCS",
		"NAMES":   "| n | n , NAME",
		"NAME":    "n | n , NAME",
		"STMTS":   "| STMT STMTS",
		"STMT":    "n = TERM ; | n [ TERM ] = TERM ; | n = call n ( TERMS ) ; | if COND { STMTS } | if COND { STMTS } else { STMTS } | while COND { STMTS } | assert COND ; | assume COND ; | read n ;",
		"TERMS":   "| TERM | TERM , MORE",
		"MORE":    "TERM | TERM , MORE",
		"COND":    "false | ROWS",
		"ROWS":    "ROW | ROW or ROWS",
		"ROW":     "true | TESTS",
		"TESTS":   "TEST | TEST and TESTS",
		"TEST":    "TERM < TERM | TERM <= TERM | TERM == TERM | TERM != TERM | TERM > TERM | TERM >= TERM",
		"TERM":    "PRODUCT | TERM + PRODUCT | TERM - PRODUCT",
		"PRODUCT": "PART | PRODUCT * PART | PRODUCT / PART | PRODUCT % PART",
		"PART":    "- PART | n | d | n [ TERM ] | ( TERM )",
	} {
		for _, way := range strings.Split(ways, "|") {
			g[thing] = append(g[thing], strings.Fields(way))
		}
	}
	return g
}

// piece of a text, and what the grammar calls it.
type piece struct {
	kind, text string
	at         int
}

var onePiece = regexp.MustCompile(`[a-z]+|[0-9]+|[<=!>]=|[^ \n]`)

// pieces of a text, whether they can stand there or not.
func pieces(s string) []piece {
	var l []piece
	for _, at := range onePiece.FindAllStringIndex(s, -1) {
		text := s[at[0]:at[1]]
		n, err := strconv.ParseInt(text, 10, 64)
		kind := text
		switch {
		case slices.Contains(keywords(), text):
		case text[0] >= '0' && text[0] <= '9':
			kind = "?"
			if err == nil && n <= 1<<40 && (text == "0" || text[0] != '0') {
				kind = "d"
			}
		case text[0] >= 'a' && text[0] <= 'z':
			kind = "?"
			if len(text) <= 8 {
				kind = "n"
			}
		}
		l = append(l, piece{kind, text, at[0]})
	}
	return l
}

// item: a way to make a thing, as far as it is gone, begun at a piece.
type item struct {
	thing      string
	way, gone  int
	begunAtSet int
}

// stands tells how many pieces can stand there, one behind the other, and whether a program ends with them: all that might come is followed at once (Earley).
func stands(g map[string][][]string, l []piece) (int, bool) {
	done := func(set []item) bool {
		return slices.ContainsFunc(set, func(x item) bool {
			return x.thing == "PROGRAM" && x.begunAtSet == 0 && x.gone == len(g[x.thing][x.way])
		})
	}
	sets := make([][]item, len(l)+1)
	add := func(at int, x item) {
		if !slices.Contains(sets[at], x) {
			sets[at] = append(sets[at], x)
		}
	}
	for way := range g["PROGRAM"] {
		add(0, item{"PROGRAM", way, 0, 0})
	}
	for at := range sets {
		// A thing that is made of nothing may be done ahead of one that waits for it: all is gone through until nothing comes.
		for before := -1; before < len(sets[at]); {
			before = len(sets[at])
			for i := 0; i < len(sets[at]); i++ {
				x := sets[at][i]
				way := g[x.thing][x.way]
				if x.gone == len(way) {
					for _, y := range sets[x.begunAtSet] {
						if waits := g[y.thing][y.way]; y.gone < len(waits) && waits[y.gone] == x.thing {
							add(at, item{y.thing, y.way, y.gone + 1, y.begunAtSet})
						}
					}
				} else if ways := g[way[x.gone]]; ways != nil {
					for i := range ways {
						add(at, item{way[x.gone], i, 0, at})
					}
				} else if at < len(l) && way[x.gone] == l[at].kind {
					add(at+1, item{x.thing, x.way, x.gone + 1, x.begunAtSet})
				}
			}
		}
		if at < len(l) && len(sets[at+1]) == 0 {
			return at, false
		}
	}
	return len(l), done(sets[len(l)])
}

// tooDeep tells the first of pieces, which all can stand there, with which they stand too deep in each other; how many there are, if there is none.
func tooDeep(l []piece) int {
	blocks, open := 0, []string{}
	deep := func() int {
		return len(slices.DeleteFunc(slices.Clone(open), func(s string) bool { return s == "form" })) + 1
	}
	ended := func() {
		for len(open) > 0 && open[len(open)-1] == "-" {
			open = open[:len(open)-1]
		}
	}
	kind := func(i int) string {
		if i < 0 || i >= len(l) {
			return ""
		}
		return l[i].kind
	}
	begins := func(i int) bool {
		return strings.Contains("{ } ;", kind(i-1)) && slices.Contains([]string{"n", "if", "while", "assert", "assume", "read"}, kind(i))
	}
	for i, p := range l {
		operand := slices.Contains([]string{"n", "d", ")", "]"}, kind(i-1))
		switch {
		case blocks > 0 && begins(i):
			if blocks > 12 {
				return i
			}
		case p.kind == "{":
			blocks++
		case p.kind == "}":
			blocks--
		case p.kind == "(" && operand, p.kind == "[" && (begins(i-1) || kind(i-2) == "array"):
			open = append(open, "form")
		case p.kind == "(", p.kind == "[", p.kind == "-" && !operand:
			open = append(open, p.kind)
			if deep() > 12 {
				return i
			}
		case p.kind == ")" || p.kind == "]":
			ended()
			open = open[:len(open)-1]
			ended()
		case p.kind == "d", p.kind == "n" && kind(i+1) != "[":
			ended()
		}
	}
	return len(l)
}

// fault that a text must have, by the grammar and by depth; nil if it must have none.
func faultOf(g map[string][][]string, s string) *api.Fault {
	l := pieces(s)
	good, whole := stands(g, l)
	if i := tooDeep(l[:good]); i < good {
		return &api.Fault{At: l[i].at, Err: api.ErrBound}
	}
	switch {
	case whole:
		return nil
	case good == len(l):
		return &api.Fault{At: len(s), Err: api.ErrText}
	}
	return &api.Fault{At: l[good].at, Err: api.ErrText}
}

// sameFault tells whether Read says of a text what the grammar says.
func sameFault(t *testing.T, g map[string][][]string, s string) (good bool) {
	t.Helper()
	want := faultOf(g, s)
	p, err := Read(s)
	var f *api.Fault
	switch {
	case want == nil && err != nil:
		t.Errorf("%q: %v, want none", s, err)
	case want != nil && (!errors.As(err, &f) || *f != *want):
		t.Errorf("%q: %v %+v, want %+v", s, err, f, want)
	case err != nil && !samePrograms(p, Program{}):
		t.Errorf("%q: %v beside an error", s, p)
	}
	return err == nil
}

// grow a thing of the grammar at random: of its ways the greater ones get rarer the more there is, and in terms.
func grow(r *rand.Rand, g map[string][][]string, thing string, l []string, deep int) []string {
	ways := g[thing]
	if ways == nil {
		switch thing {
		case "n":
			thing = []string{"x", "y", "abcdefgh", "iff", "at", "set", "mai"}[r.Intn(7)]
		case "d":
			thing = []string{"0", "1", "10", "1099511627776"}[r.Intn(4)]
		}
		return append(l, thing)
	}
	way := ways[r.Intn(len(ways))]
	small := slices.Contains([]string{"TERM", "PRODUCT", "PART", "VARS", "ARRAYS", "PROCS"}, thing) && r.Intn(5) < 3
	if thing == "STMTS" && r.Intn(3) > 0 {
		way = ways[1]
	}
	if small || deep > 60 || r.Intn(200) < len(l) {
		way = slices.MinFunc(ways, func(a, b []string) int { return costOf(g, a) - costOf(g, b) })
	}
	for _, part := range way {
		l = grow(r, g, part, l, deep+1)
	}
	return l
}

// costOf a way: how far it is from having nothing left to grow, about.
func costOf(g map[string][][]string, way []string) int {
	cost := len(way)
	for _, part := range way {
		if g[part] != nil {
			cost += 10
		}
		if part == "PART" || part == "ROW" || part == "TERM" {
			cost += 5
		}
	}
	return cost
}

// harm words at random.
func harm(r *rand.Rand, l []string) []string {
	other := strings.Fields("var array proc return main call if else while assert assume read false true or and n set ; , = { } ( ) [ ] + - * / % < <= == != > >= 7 0 01 1099511627777 abcdefghi ! ? X & # . _ \t")
	if len(l) == 0 {
		return l
	}
	i, j := r.Intn(len(l)), r.Intn(len(l))
	word := other[r.Intn(len(other))]
	switch r.Intn(6) {
	case 0:
		return slices.Delete(l, i, i+1)
	case 1:
		return slices.Insert(l, i, word)
	case 2:
		l[i] = word
	case 3:
		l[i], l[j] = l[j], l[i]
	case 4:
		l = l[:i]
	case 5:
		l = slices.Insert(l, i, l[min(i, j):max(i, j)]...)
	}
	return l
}

// lay words one behind the other, with blanks where they must be, and at random.
func lay(r *rand.Rand, l []string, blanks int) string {
	var b strings.Builder
	run := regexp.MustCompile(`^([a-z]+ [a-z]+|[0-9]+ [0-9]+|[<>=!] =.*)$`)
	for i, word := range l {
		if i > 0 && run.MatchString(l[i-1]+" "+word) {
			b.WriteString([]string{" ", "\n"}[r.Intn(2)])
		}
		for blanks > 0 && r.Intn(blanks+1) > 0 {
			b.WriteString([]string{" ", "\n"}[r.Intn(2)])
			blanks--
		}
		b.WriteString(word)
	}
	return b.String()
}

// P101, P102: what can be read, and where the first word stands that cannot, is what the grammar says.
func TestReadByGrammar(t *testing.T) {
	r, g := rand.New(rand.NewSource(10)), grammar()
	good := 0
	for range 4000 {
		l := grow(r, g, "PROGRAM", nil, 0)
		if len(l) > 300 {
			continue
		}
		for range r.Intn(3) {
			l = harm(r, l)
		}
		if sameFault(t, g, lay(r, l, r.Intn(8))) {
			good++
		}
	}
	if good < 800 || good > 3200 {
		t.Error(good)
	}
}

// P102: also where much stands in each other.
func TestReadDeepByGrammar(t *testing.T) {
	r, g := rand.New(rand.NewSource(11)), grammar()
	good := 0
	var nest func(deep int) string
	nest = func(deep int) string {
		if deep <= 0 {
			return []string{"x", "1"}[r.Intn(2)]
		}
		s := nest(deep - 1)
		switch r.Intn(8) {
		case 0, 1, 2:
			s = "-" + s
		case 3:
			s = "(" + s + ")"
		case 4:
			s = "x[" + s + "]"
		case 5:
			s = "(" + s + "+" + nest(deep-2-r.Intn(4)) + ")"
		case 6:
			s = nest(deep-1-r.Intn(3)) + "*" + s
		case 7:
			s += "-" + nest(deep-1-r.Intn(3))
		}
		return s
	}
	for range 1500 {
		term := nest(8 + r.Intn(7))
		form := []string{"x=T;", "x[T]=1;", "x[1]=T;", "x=call f(1,T);", "if 1<1 or T<1{}", "while T<1{}", "assert 1<T;", "assume true or 1<1 and T==1;"}[r.Intn(8)]
		s := strings.Replace(form, "T", term, 1)
		for range r.Intn(14) {
			s = []string{"while true{", "if false{x=1;", "if true{}else{"}[r.Intn(3)] + s + "}"
			if r.Intn(4) == 0 {
				s += "read x;"
			}
		}
		s = "main{" + s + "}"
		if r.Intn(4) == 0 {
			s = "proc f(){" + s[5:len(s)-1] + "return " + nest(9+r.Intn(6)) + ";}main{}"
		}
		if sameFault(t, g, s) {
			good++
		}
	}
	if good < 200 || good > 1300 {
		t.Error(good)
	}
}
