package check

import (
	"fmt"
	"slices"
	"strings"
	"testing"

	"raycone/api"
	"raycone/lang"
)

// P111: what calls become.
func TestInline(t *testing.T) {
	for s, want := range map[string]string{
		"main{}": "main{}",
		"var x;array a[3];main{read x;a[x]=1;if x<1 or true{x=2;}else{x=a[x];}while false{assume x<1;}assert true;}":                                        "var x;array a[3];main{read x;a[x]=1;if x<1 or true{x=2;}else{x=a[x];}while false{assume x<1;}assert true;}",
		"var x;proc f(){return 7;}main{x=call f();}":                                                                                                        "var x;main{x=7;}",
		"var x;proc f(){return 7;}main{x=call f();x=1;x=call f();}":                                                                                         "var x;main{x=7;x=1;x=7;}",
		"var x;proc f(y,z){return y-z;}main{x=call f(x+1,x*2);}":                                                                                            "var x;var y;var z;main{y=x+1;z=x*2;x=y-z;}",
		"var x;proc f(z,y){return y-z;}main{x=call f(x+1,x*2);}":                                                                                            "var x;var z;var y;main{z=x+1;y=x*2;x=y-z;}",
		"var x;proc f(y){y=y+1;x=y;return-y;}main{x=call f(x);}":                                                                                            "var x;var y;main{y=x;y=y+1;x=y;x=-y;}",
		"var x;proc f(y){if y<0{x=1;}else{while x<y{x=x+1;}}return x;}main{x=call f(3);}":                                                                   "var x;var y;main{y=3;if y<0{x=1;}else{while x<y{x=x+1;}}x=x;}",
		"var x;proc f(){return 7;}main{if true{x=call f();}else{while true{x=call f();}}}":                                                                  "var x;main{if true{x=7;}else{while true{x=7;}}}",
		"var x;proc f(y){return y;}proc g(z){z=call f(z+1);return z+2;}main{x=call g(x+3);}":                                                                "var x;var y;var z;main{z=x+3;y=z+1;z=y;x=z+2;}",
		"var x;proc f(){return 1;}proc g(){if true{x=call f();}return 2;}proc h(){while true{x=call g();x=call f();}return 3;}main{x=call h();x=call g();}": "var x;main{while true{if true{x=1;}x=2;x=1;}x=3;if true{x=1;}x=2;}",
		// Parameters stand behind all variables, also those of procedures that nobody calls.
		"var x;var y;array a[1];array b[2];proc f(q,p){return 1;}proc g(){return 1;}proc h(o){return 1;}main{x=call g();}": "var x;var y;var q;var p;var o;array a[1];array b[2];main{x=1;}",
		"proc f(q){q=q+1;return q;}main{}": "var q;main{}",
	} {
		p := read(t, s)
		got, err := Inline(p)
		if told(got) != told(read(t, want)) || err != nil {
			t.Errorf("%q: %v %v, want %q", s, told(got), err, want)
		}
	}
}

// P111: how many statements may come, in all: just written down, if there is a text with so many, or made by calls.
func TestInlineMany(t *testing.T) {
	plain := func(many int) string { return strings.Repeat("x=1;", many) }
	byCalls := func(many int) string { return strings.Repeat("x=call k();", many/20) + plain(many%20) }
	for s, want := range map[string]int{
		"main{%s}":                                                           0,
		"main{while true{%s}}":                                               1,
		"main{if true{x=1;}else{%s}}":                                        2,
		"main{if true{%s}else{if true{}}}":                                   2,
		"proc f(){return 1;}main{%s}":                                        0,
		"proc f(){%s return 1;}main{}":                                       -1,
		"proc f(){%s return 1;}main{x=call f();}":                            1,
		"proc f(y,z){%s return 1;}main{x=call f(1,2);}":                      3,
		"proc f(){x=1;if true{x=1;}return 1;}main{x=call f();x=call f();%s}": 8,
		"proc f(u){x=1;return 1;}proc g(v){x=call f(1);x=call f(2);%s return 3;}main{x=call g(1);}":         8,
		"proc f(u){x=1;return 1;}proc g(v){x=call f(1);x=call f(2);return 3;}main{%s x=call g(1);}":         8,
		"proc f(u){x=1;return 1;}proc g(v){while true{x=call f(1);}return 3;}main{if true{x=call g(1);%s}}": 7,
	} {
		for _, all := range []int{399, 400, 401, 402} {
			comes := all
			if want < 0 {
				comes = 0
			}
			hasMany(t, "var x;proc k(){"+plain(19)+"return 1;}"+fmt.Sprintf(s, byCalls(all-max(want, 0))), comes)
			// In a block, so many with their blanks ahead of them have no text.
			if !strings.Contains(s, "true") {
				hasMany(t, "var x;"+fmt.Sprintf(s, plain(all-max(want, 0))), comes)
			}
		}
	}
}

// hasMany statements when its calls are gone, or is too much.
func hasMany(t *testing.T, s string, want int) {
	t.Helper()
	p := read(t, s)
	text(t, p)
	q, err := Inline(p)
	switch {
	case want <= 400 && (err != nil || counted(q.Main) != want):
		t.Errorf("%.300q: %d %v, want %d", s, counted(q.Main), err, want)
	case want > 400 && (err != api.ErrBound || told(q) != told(lang.Program{})):
		t.Errorf("%.300q: %v", s, err)
	}
}

// counted statements, in all.
func counted(l []lang.Stmt) int {
	n := len(l)
	for _, s := range l {
		n += counted(s.Body) + counted(s.Else)
	}
	return n
}

// deepest of statements.
func deepest(l []lang.Stmt) int {
	deep := 0
	for _, s := range l {
		deep = max(deep, 1+deepest(slices.Concat(s.Body, s.Else)))
	}
	return deep
}

// within so many blocks.
func within(s string, blocks int) string {
	for i := range blocks {
		s = []string{"while true{" + s + "}", "if true{" + s + "}", "if true{}else{" + s + "}", "if true{" + s + "}else{x=1;}"}[i%4]
	}
	return s
}

// P111: how deep statements may come to stand.
func TestInlineDeep(t *testing.T) {
	for inner := range 12 {
		for outer := range 12 {
			for s, deep := range map[string]int{
				"var x;proc f(y){" + within("x=1;", inner) + "return 1;}main{" + within("x=call f(1);", outer) + "}":                                                                inner + outer + 1,
				"var x;proc f(y){" + within("", inner) + "return 1;}main{x=1;" + within("x=call f(1);", outer) + "x=1;}":                                                            max(inner, 1) + outer,
				"var x;proc f(){return 1;}proc g(){" + within("x=call f();", inner) + "return 1;}main{" + within("x=call g();", outer) + "}":                                        inner + outer + 1,
				"var x;proc f(){" + within("x=1;", inner) + "return 1;}main{" + within("x=1;", outer) + "}":                                                                         outer + 1,
				"var x;proc f(){" + within("x=1;", inner/2) + "return 1;}proc g(){" + within("x=call f();", inner-inner/2) + "return 1;}main{" + within("x=call g();", outer) + "}": inner + outer + 1,
			} {
				q, err := Inline(read(t, s))
				switch {
				case deep <= api.MaxDeep && (err != nil || deepest(q.Main) != deep):
					t.Errorf("%q: %d %v, want %d", s, deepest(q.Main), err, deep)
				case deep > api.MaxDeep && (err != api.ErrBound || told(q) != told(lang.Program{})):
					t.Errorf("%q: %v", s, err)
				}
			}
		}
	}
}

// P1, P111, P112: that it is too much is told soon, and what is used: there are some 10^9 statements.
func TestInlineTooMuch(t *testing.T) {
	s := "var x;proc a(){return x;}"
	for _, pair := range strings.Fields("ba cb dc ed fe") {
		s += "proc " + pair[:1] + "(){" + strings.Repeat("x=call "+pair[1:]+"();", 36) + "return x;}"
	}
	p := read(t, s+"main{"+strings.Repeat("x=call f();", 36)+"}")
	answers(t, p, nil)
	if q, err := Inline(p); err != api.ErrBound || told(q) != told(lang.Program{}) {
		t.Error(err)
	}
	if l, err := Used(p); !slices.Equal(l, []string{"x"}) || err != nil {
		t.Error(l, err)
	}
}

// P1, P110: that there is no text is told soon, also of 2^64 statements, more than could ever be laid out, or counted.
func TestInlineNoText(t *testing.T) {
	p := lang.Program{Vars: []string{"x"}}
	calls := func(name string, many int) []lang.Stmt {
		return slices.Repeat([]lang.Stmt{{Kind: "call", Name: "x", Proc: name}}, many)
	}
	for _, name := range strings.Fields("a b c d e f") {
		var body []lang.Stmt
		for _, c := range p.Procs {
			body = append(body, calls(c.Name, 1<<12-1)...)
		}
		p.Procs = append(p.Procs, lang.Proc{Name: name, Body: body, Return: lang.Expr{Op: "var", Name: "x"}})
	}
	p.Main = calls("f", 1<<4)
	answers(t, p, api.ErrShape)
}

// P112: names that are used.
func TestUsed(t *testing.T) {
	for s, want := range map[string]string{
		"main{}":                                       "",
		"var x;array a[1];main{}":                      "",
		"var z;var y;var x;main{z=1;read y;}":          "y z",
		"var x;var y;main{x=y;}":                       "x y",
		"var x;var y;var z;main{x=-(1+y*2);}":          "x y",
		"var x;array a[1];array b[1];main{a[x]=1;}":    "a x",
		"array b[1];array a[1];main{a[0]=b[0];}":       "a b",
		"var x;array b[1];array a[1];main{a[b[x]]=2;}": "a b x",
		"var u;var v;var w;var x;var y;var z;main{assert u<1 and 1<v or true or w+1<1;assume 1<-x;if y<1{}while 1<z{}}": "u v w x y z",
		"var u;var v;var w;var x;main{if true{read w;}else{while true{if false{}else{u=1;}}}}":                          "u w",
		"var x;var y;main{while false{x=1;}}": "x",
		// Of procedures, those that are called.
		"var x;var y;proc f(){y=1;return 1;}main{x=1;}":                                                                                "x",
		"var x;var y;proc f(){y=1;return 1;}main{x=call f();}":                                                                         "x y",
		"var x;var y;proc f(){return y;}main{if false{x=call f();}}":                                                                   "x y",
		"var x;array a[1];proc f(){return a[1];}main{x=call f();}":                                                                     "a x",
		"var x;var y;var z;proc f(u){return y+u;}main{x=call f(z);}":                                                                   "u x y z",
		"var x;var y;var z;proc f(){x=1;return 1;}proc g(){y=call f();return 1;}proc h(){z=call g();return 1;}main{}":                  "",
		"var x;var y;var z;var u;proc f(){x=1;return 1;}proc g(){y=call f();return 1;}proc h(){z=call g();return 1;}main{u=call f();}": "u x",
		"var x;var y;var z;var u;proc f(){x=1;return 1;}proc g(){y=call f();return 1;}proc h(){z=call g();return 1;}main{u=call g();}": "u x y",
		"var x;var y;var z;var u;proc f(){x=1;return 1;}proc g(){y=call f();return 1;}proc h(){z=call g();return 1;}main{u=call h();}": "u x y z",
		"var x;var y;var z;proc f(){y=1;return 1;}proc g(){z=1;return 1;}main{x=call g();x=call g();}":                                 "x z",
		// A parameter is used by a term or a statement, not by being there.
		"var x;proc f(u,v,w){v=1;return u;}main{x=call f(1,2,3);}": "u v x",
		"var b;var aa;var a;var ab;main{b=1;aa=1;a=1;ab=1;}":       "a aa ab b",
		// More statements than may be inlined.
		"var x;main{" + strings.Repeat("x=1;", 410) + "}": "x",
	} {
		l, err := Used(read(t, s))
		if got := strings.Join(l, " "); got != want || err != nil {
			t.Errorf("%q: %q %v, want %q", s, got, err, want)
		}
	}
}
