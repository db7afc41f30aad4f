package machine

import (
	"math/big"
	"regexp"
	"slices"
	"strconv"
	"testing"

	"raycone/lang"
)

var oneWord = regexp.MustCompile(`[a-z]+|[0-9]+|[<>=!]=|\S`)

// walker goes through the words of a text, and does what they say: another machine, of numbers of any size. Nothing is thrown: once kind is told, nothing more is done.
type walker struct {
	words  []string
	at     int
	procs  map[string]int // where the name of each stands
	vars   map[string]*big.Int
	own    map[string]*big.Int // the parameters of the procedure that is at work
	arrays map[string][]*big.Int
	input  []int
	fuel   int
	steps  int
	kind   string
}

// walked: how a program ends, by its words.
func walked(t *testing.T, p lang.Program, input []int, fuel int) End {
	t.Helper()
	text, err := lang.Text(p)
	if err != nil {
		t.Fatal(err)
	}
	w := &walker{words: oneWord.FindAllString(text, -1), procs: map[string]int{}, vars: map[string]*big.Int{}, arrays: map[string][]*big.Int{}, input: input, fuel: fuel}
	names := w.declared()
	w.at += 2 // main {
	w.block()
	e := End{Kind: w.kind, Steps: w.steps}
	if w.kind == "" {
		e.Kind = "done"
	}
	for _, name := range names {
		if l, ok := w.arrays[name]; ok {
			e.Arrays = append(e.Arrays, ints(l))
		} else {
			e.Vars = append(e.Vars, ints([]*big.Int{w.vars[name]})...)
		}
	}
	return e
}

func ints(l []*big.Int) []int {
	var told []int
	for _, n := range l {
		told = append(told, int(n.Int64()))
	}
	return told
}

// declared names of variables and arrays; it stands ahead of main then.
func (w *walker) declared() []string {
	var names []string
	for ; w.words[w.at] != "main"; w.at++ {
		name := w.words[w.at+1]
		switch w.words[w.at] {
		case "var":
			names = append(names, name)
			w.vars[name] = new(big.Int)
			w.at += 2
		case "array":
			names = append(names, name)
			many, _ := strconv.Atoi(w.words[w.at+3])
			for range many {
				w.arrays[name] = append(w.arrays[name], new(big.Int))
			}
			w.at += 5
		case "proc":
			w.procs[name] = w.at + 1
			w.at += slices.Index(w.words[w.at:], "{")
			w.skip()
			w.at--
		}
	}
	return names
}

// skip a block that begins here.
func (w *walker) skip() {
	open := 0
	for {
		switch w.words[w.at] {
		case "{":
			open++
		case "}":
			open--
		}
		w.at++
		if open == 0 {
			return
		}
	}
}

// ends the run, if it has not ended.
func (w *walker) ends(kind string) {
	if w.kind == "" {
		w.kind = kind
	}
}

// step, if there is one more.
func (w *walker) step() bool {
	if w.kind == "" && w.steps >= w.fuel {
		w.kind = "tired"
	}
	if w.kind == "" {
		w.steps++
	}
	return w.kind == ""
}

// block, up to its end or to `return`.
func (w *walker) block() {
	for w.kind == "" && w.words[w.at] != "}" && w.words[w.at] != "return" {
		w.statement()
	}
}

func (w *walker) statement() {
	if !w.step() {
		return
	}
	word := w.words[w.at]
	w.at++
	switch word {
	case "if":
		w.branches()
	case "while":
		w.loop()
	case "assert", "assume":
		if !w.cond() {
			w.ends(map[string]string{"assert": "failed", "assume": "stuck"}[word])
		}
		w.at++
	case "read":
		if len(w.input) == 0 {
			w.ends("wrong")
			return
		}
		w.set(w.words[w.at], big.NewInt(int64(w.input[0])))
		w.input = w.input[1:]
		w.at += 2
	default:
		w.change(word)
	}
}

func (w *walker) branches() {
	is := w.cond()
	if w.kind != "" {
		return
	}
	w.either(is)
	if w.kind == "" && w.words[w.at] == "else" {
		w.at++
		w.either(!is)
	}
}

// either the block here is done, or it is skipped.
func (w *walker) either(done bool) {
	if !done {
		w.skip()
		return
	}
	w.at++
	w.block()
	w.at++
}

func (w *walker) loop() {
	from := w.at
	for w.cond() && w.kind == "" {
		w.either(true)
		if !w.step() {
			return
		}
		w.at = from
	}
	if w.kind == "" {
		w.skip()
	}
}

// change of what has a name: behind it stands `=`, or `[`.
func (w *walker) change(name string) {
	w.at++
	if l, ok := w.arrays[name]; ok {
		place := w.sum(true)
		w.at += 2
		n := w.sum(true)
		if w.within(place, len(l)) {
			l[place.Int64()] = n
		}
		w.at++
		return
	}
	if w.words[w.at] == "call" {
		w.call(name)
		return
	}
	w.set(name, w.sum(true))
	w.at++
}

// set what has a name, if the run goes on.
func (w *walker) set(name string, n *big.Int) {
	switch {
	case w.kind != "":
	case w.own[name] != nil:
		w.own[name] = n
	default:
		w.vars[name] = n
	}
}

func (w *walker) call(name string) {
	proc := w.procs[w.words[w.at+1]]
	own := map[string]*big.Int{}
	param := proc + 2
	for w.at += 3; w.words[w.at] != ")"; {
		own[w.words[param]] = w.sum(true)
		if w.words[w.at] == "," {
			w.at++
		}
		param += 2
	}
	if w.kind != "" {
		return
	}
	back, outer := w.at+2, w.own
	w.own = own
	w.at = proc + slices.Index(w.words[proc:], "{") + 1
	w.block()
	if w.kind != "" {
		return
	}
	w.at++
	n := w.sum(true)
	w.at, w.own = back, outer
	w.set(name, n)
}

// within an array of so many, or the run ends.
func (w *walker) within(place *big.Int, many int) bool {
	if place.Sign() < 0 || place.Cmp(big.NewInt(int64(many))) >= 0 {
		w.ends("wrong")
	}
	return w.kind == ""
}

// cond: all of it is gone through, but only what is not plain yet is live.
func (w *walker) cond() bool {
	if w.words[w.at] == "false" {
		w.at++
		return false
	}
	is := w.row(true)
	for w.words[w.at] == "or" {
		w.at++
		is = w.row(!is) || is
	}
	return is
}

func (w *walker) row(live bool) bool {
	if w.words[w.at] == "true" {
		w.at++
		return live
	}
	is := w.test(live)
	for w.words[w.at] == "and" {
		w.at++
		is = w.test(is) && is
	}
	return is
}

func (w *walker) test(live bool) bool {
	a := w.sum(live)
	rel := w.words[w.at]
	w.at++
	signs := map[string][]int{"<": {-1}, "<=": {-1, 0}, "==": {0}, "!=": {-1, 1}, ">": {1}, ">=": {0, 1}}[rel]
	return slices.Contains(signs, a.Cmp(w.sum(live))) && live
}

func (w *walker) sum(live bool) *big.Int {
	a := w.product(live)
	for w.words[w.at] == "+" || w.words[w.at] == "-" {
		sign := w.words[w.at]
		w.at++
		b := w.product(live)
		if sign == "-" {
			b = new(big.Int).Neg(b)
		}
		a = w.small(live, new(big.Int).Add(a, b))
	}
	return a
}

func (w *walker) product(live bool) *big.Int {
	a := w.part(live)
	for {
		sign := w.words[w.at]
		if sign != "*" && sign != "/" && sign != "%" {
			return a
		}
		w.at++
		b := w.part(live)
		if sign == "*" {
			a = w.small(live, new(big.Int).Mul(a, b))
			continue
		}
		if b.Sign() == 0 {
			if live {
				w.ends("wrong")
			}
			a = new(big.Int)
			continue
		}
		part, rest := new(big.Int).QuoRem(a, b, new(big.Int))
		a = map[string]*big.Int{"/": part, "%": rest}[sign]
	}
}

// small enough, or the run ends.
func (w *walker) small(live bool, n *big.Int) *big.Int {
	if new(big.Int).Abs(n).Cmp(new(big.Int).Lsh(big.NewInt(1), 40)) <= 0 {
		return n
	}
	if live {
		w.ends("wrong")
	}
	return new(big.Int)
}

func (w *walker) part(live bool) *big.Int {
	word := w.words[w.at]
	w.at++
	if n, ok := new(big.Int).SetString(word, 10); ok {
		return n
	}
	switch {
	case word == "-":
		return new(big.Int).Neg(w.part(live))
	case word == "(":
		n := w.sum(live)
		w.at++
		return n
	case w.arrays[word] != nil:
		return w.from(w.arrays[word], live)
	case w.own[word] != nil:
		return w.own[word]
	}
	return w.vars[word]
}

// from an array, at the place that stands in brackets here.
func (w *walker) from(l []*big.Int, live bool) *big.Int {
	w.at++
	place := w.sum(live)
	w.at++
	if !live || !w.within(place, len(l)) {
		return new(big.Int)
	}
	return l[place.Int64()]
}
