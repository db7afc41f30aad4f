package machine

import (
	"fmt"
	"slices"
	"strings"
	"testing"

	"raycone/api"
	"raycone/lang"
)

// read a program of a test.
func read(t *testing.T, s string) lang.Program {
	t.Helper()
	p, err := lang.Read(s)
	if err != nil {
		t.Fatalf("%q: %v", s, err)
	}
	return p
}

// ran: how a run ends that has no error.
func ran(t *testing.T, p lang.Program, input []int, fuel int) End {
	t.Helper()
	e, err := Run(p, input, fuel)
	if err != nil {
		t.Fatalf("%.300s: %v", told(p), err)
	}
	return e
}

// told of anything: all its fields.
func told(v any) string { return fmt.Sprintf("%+v", v) }

// sees how runs end, each of a text, with the input 5 and 6 and fuel for 50 steps.
func sees(t *testing.T, l map[string]string) {
	t.Helper()
	for s, want := range l {
		if got := fmt.Sprint(ran(t, read(t, s), []int{5, 6}, 50)); got != want {
			t.Errorf("%q: %s, want %s", s, got, want)
		}
	}
}

// P120: what statements do, and how many steps they are.
func TestStatements(t *testing.T) {
	sees(t, map[string]string{
		"main{}": "{done 0 [] []}",
		"var x;var y;array a[1];array b[3];main{}":                  "{done 0 [0 0] [[0] [0 0 0]]}",
		"var y;var x;main{x=1;}":                                    "{done 1 [0 1] []}",
		"var x;main{x=x+1;x=x+1;x=x+1;}":                            "{done 3 [3] []}",
		"array b[2];array a[3];main{a[2]=7;b[0]=8;}":                "{done 2 [] [[8 0] [0 0 7]]}",
		"array a[3];main{a[0]=1;a[a[0]]=a[0]+1;a[a[a[0]]]=a[1]+1;}": "{done 3 [] [[1 2 3]]}",
		"var x;array a[2];main{a[1]=4;x=a[1]-a[0];}":                "{done 2 [4] [[0 4]]}",
		"var x;var y;main{read x;read y;}":                          "{done 2 [5 6] []}",
		"var x;main{read x;read x;}":                                "{done 2 [6] []}",
		"var x;main{read x;}":                                       "{done 1 [5] []}",
		"var x;main{if x==0{x=1;}}":                                 "{done 2 [1] []}",
		"var x;main{if x==1{x=1;}}":                                 "{done 1 [0] []}",
		"var x;main{if x==0{x=1;}else{x=2;x=3;}}":                   "{done 2 [1] []}",
		"var x;main{if x==1{x=1;}else{x=2;x=3;}}":                   "{done 3 [3] []}",
		"var x;main{if true{}}":                                     "{done 1 [0] []}",
		"var x;main{if true{if false{}else{if true{x=1;}}}x=x+1;}":  "{done 5 [2] []}",
		"var x;main{while x<0{x=1;}}":                               "{done 1 [0] []}",
		"var x;main{while x<1{x=1;}}":                               "{done 3 [1] []}",
		"var x;main{while x<4{x=x+1;}x=x*2;}":                       "{done 10 [8] []}",
		"var x;var y;main{while x<3{y=0;while y<2{y=y+1;}x=x+1;}}":  "{done 25 [3 2] []}",
		"var x;main{while false{x=1;}}":                             "{done 1 [0] []}",
		"main{assert true;assume true;}":                            "{done 2 [] []}",
		"var x;main{x=3;assert x==3;x=4;assume x>3;x=5;}":           "{done 5 [5] []}",
	})
}

// P120: what ends a run ahead of its last statement.
func TestEndings(t *testing.T) {
	sees(t, map[string]string{
		"var x;main{x=1;assume x==2;x=3;}":                     "{stuck 2 [1] []}",
		"var x;main{x=1;assert x==2;x=3;}":                     "{failed 2 [1] []}",
		"var x;main{assume false;assert false;}":               "{stuck 1 [0] []}",
		"var x;main{assert false;assume false;}":               "{failed 1 [0] []}",
		"var x;main{if true{while true{x=x+1;assert x<3;}}}":   "{failed 10 [3] []}",
		"var x;main{if true{while true{x=x+1;assume x<3;}}}":   "{stuck 10 [3] []}",
		"var x;main{x=1;x=x/0;x=3;}":                           "{wrong 2 [1] []}",
		"var x;main{x=1;x=x%0;x=3;}":                           "{wrong 2 [1] []}",
		"var x;main{x=0/0;}":                                   "{wrong 1 [0] []}",
		"var x;main{x=0%0;}":                                   "{wrong 1 [0] []}",
		"var x;array a[3];main{x=1;x=a[3];}":                   "{wrong 2 [1] [[0 0 0]]}",
		"var x;array a[3];main{x=1;x=a[-1];}":                  "{wrong 2 [1] [[0 0 0]]}",
		"var x;array a[3];main{x=1;x=a[1099511627776];}":       "{wrong 2 [1] [[0 0 0]]}",
		"array a[3];array b[5];main{b[4]=1;a[4]=1;}":           "{wrong 2 [] [[0 0 0] [0 0 0 0 1]]}",
		"array a[3];main{a[2]=1;a[3]=2;}":                      "{wrong 2 [] [[0 0 1]]}",
		"array a[3];main{a[0]=1;a[-1]=2;}":                     "{wrong 2 [] [[1 0 0]]}",
		"array a[3];main{a[0]=1;a[0]=2/a[1];}":                 "{wrong 2 [] [[1 0 0]]}",
		"array a[16];main{a[15]=1;a[16]=1;}":                   "{wrong 2 [] [[0 0 0 0 0 0 0 0 0 0 0 0 0 0 0 1]]}",
		"array a[1];main{a[0]=1;a[1]=1;}":                      "{wrong 2 [] [[1]]}",
		"var x;var y;main{read x;read x;read y;}":              "{wrong 3 [6 0] []}",
		"var x;main{assert x/x==1;}":                           "{wrong 1 [0] []}",
		"var x;main{assume x/x==1;}":                           "{wrong 1 [0] []}",
		"var x;main{x=2;if 1/(x-2)==0{x=3;}}":                  "{wrong 2 [2] []}",
		"var x;main{x=2;while 4/x>0{x=x-1;}}":                  "{wrong 6 [0] []}",
		"var x;main{while true{x=x+1;}}":                       "{tired 50 [25] []}",
		"var x;main{while true{}}":                             "{tired 50 [0] []}",
		"var x;main{x=1;while true{x=x+1;}}":                   "{tired 50 [25] []}",
		"var x;main{while x<24{x=x+1;}x=7;}":                   "{done 50 [7] []}",
		"var x;main{while x<24{x=x+1;}x=7;x=8;}":               "{tired 50 [7] []}",
		"var x;main{while x<24{x=x+1;}x=7;while false{}}":      "{tired 50 [7] []}",
		"var x;main{while x<24{x=x+1;}x=7;assert false;}":      "{tired 50 [7] []}",
		"var x;main{while x<24{x=x+1;}x=7;x=1/0;}":             "{tired 50 [7] []}",
		"var x;main{while x<24{x=x+1;}assert false;}":          "{failed 50 [24] []}",
		"var x;main{while x<24{x=x+1;}assume false;}":          "{stuck 50 [24] []}",
		"var x;main{while x<24{x=x+1;}x=1/0;}":                 "{wrong 50 [24] []}",
		"var x;main{while x<24{x=x+1;}if true{}}":              "{done 50 [24] []}",
		"var x;main{while x<24{x=x+1;}if true{x=1;}}":          "{tired 50 [24] []}",
		"var x;main{while x<24{x=x+1;}while false{}}":          "{done 50 [24] []}",
		"var x;main{while x<24{x=x+1;}while true{}}":           "{tired 50 [24] []}",
		"var x;main{while x<24{x=x+1;}while x<25{x=x+1;}}":     "{tired 50 [24] []}",
		"var x;var y;main{while x<24{x=x+1;}read y;read y;}":   "{tired 50 [24 5] []}",
		"var x;array a[2];main{while x<24{x=x+1;}x=1;a[9]=1;}": "{tired 50 [1] [[0 0]]}",
	})
}

// P120: with each number of steps, up to what a program needs, it is just so far.
func TestFuel(t *testing.T) {
	p := read(t, "var x;var y;proc f(u){x=x*10+u;u=u+1;return u;}main{y=call f(1);if x<9{x=x*10+2;}while x<1000{x=x*10+3;}y=call f(y);x=0;}")
	at := []string{"[0 0]", "[0 0]", "[1 0]", "[1 2]", "[1 2]", "[12 2]", "[12 2]", "[123 2]", "[123 2]", "[1233 2]", "[1233 2]", "[1233 2]", "[12332 2]", "[12332 3]", "[0 3]", "[0 3]", "[0 3]"}
	for fuel, want := range at {
		kind := "tired"
		if fuel >= 14 {
			kind = "done"
		}
		want = fmt.Sprintf("{%s %d %s []}", kind, min(fuel, 14), want)
		if got := fmt.Sprint(ran(t, p, nil, fuel)); got != want {
			t.Errorf("%d: %s, want %s", fuel, got, want)
		}
	}
	endless := read(t, "var x;main{while true{x=x+1;}}")
	for fuel, want := range map[int]string{0: "{tired 0 [0] []}", 1: "{tired 1 [0] []}", 2: "{tired 2 [1] []}", 19999: "{tired 19999 [9999] []}", 20000: "{tired 20000 [10000] []}"} {
		if got := fmt.Sprint(ran(t, endless, nil, fuel)); got != want {
			t.Errorf("%d: %s, want %s", fuel, got, want)
		}
	}
	if got := fmt.Sprint(ran(t, lang.Program{}, nil, 0)); got != "{done 0 [] []}" {
		t.Error(got)
	}
}

// P120: how much may be read: all that is handed over, of any number that a value may be.
func TestInput(t *testing.T) {
	p := read(t, "var x;var n;main{while true{read x;n=n+1;}}")
	for many := range api.MaxInput + 1 {
		input := make([]int, many)
		for i := range input {
			input[i] = 100 - i*7
		}
		last := 0
		if many > 0 {
			last = input[many-1]
		}
		want := End{Kind: "wrong", Steps: 3*many + 2, Vars: []int{last, many}}
		if got := ran(t, p, input, 20000); told(got) != told(want) {
			t.Errorf("%d: %v, want %v", many, got, want)
		}
	}
	one := read(t, "var x;main{read x;}")
	for _, n := range []int{api.MaxValue, -api.MaxValue, 0, -1} {
		if got := ran(t, one, []int{n, n}, 1); told(got) != told(End{Kind: "done", Steps: 1, Vars: []int{n}}) {
			t.Errorf("%d: %v", n, got)
		}
	}
}

// P121: terms, which are worked out of x = -7, y = 2, z = 2^40, a = 1 2 3.
func TestTerms(t *testing.T) {
	const great = api.MaxValue
	for s, want := range map[string]int{
		"0": 0, "7": 7, "1099511627776": great, "-1099511627776": -great, "--5": 5, "---5": -5, "-0": 0,
		"7/2": 3, "-7/2": -3, "7/-2": -3, "-7/-2": 3, "x/y": -3, "6/2": 3, "-6/2": -3, "1/2": 0, "-1/2": 0, "0/5": 0, "0/-5": 0,
		"7%2": 1, "-7%2": -1, "7%-2": 1, "-7%-2": -1, "x%y": -1, "6%3": 0, "-6%3": 0, "1%2": 1, "-1%2": -1, "0%5": 0, "5%1099511627776": 5, "-5%-1099511627776": -5,
		"2+3*4": 14, "(2+3)*4": 20, "2*3+4": 10, "10-3-2": 5, "10-(3-2)": 9, "100/10/5": 2, "100/(10/5)": 50, "100%30%7": 3, "100/7*7": 98, "100*7/7": 100, "8/3%2": 0, "8%3/2": 1, "-2*3": -6, "-(2*3)": -6, "-x*y": 14, "1--1": 2, "1-(-x)": -6,
		"a[0]": 1, "a[2]": 3, "a[a[0]]": 2, "a[a[a[0]]]": 3, "a[y-1]+a[y]*10": 32, "a[x+8]": 2, "-a[1]": -2, "a[-x/3]": 3,
		"z": great, "-z": -great, "z-1+1": great, "-z+1-1": -great, "z*1": great, "1*z": great, "-1*z": -great, "z*-1": -great, "-z*-1": great, "z*0": 0, "0*z": 0, "0*-z": 0, "z/z": 1, "z/-z": -1, "-z/z": -1, "z%z": 0, "z/1": great, "z/-1": -great, "-z/-1": great,
		"1048576*1048576": great, "-1048576*1048576": -great, "1048576*-1048576": -great, "-1048576*-1048576": great, "1048575*1048577": great - 1, "3*366503875925": great - 1, "-3*366503875925": 1 - great, "z/2*2": great, "z/2+z/2": great, "-z/2-z/2": -great, "z/3*3": great - 1, "z-z": 0, "-z+z": 0,
	} {
		p := read(t, "var x;var y;var z;var r;array a[3];main{x=-7;y=2;z=1099511627776;a[0]=1;a[1]=2;a[2]=3;r="+s+";}")
		end := End{Kind: "done", Steps: 7, Vars: []int{-7, 2, great, want}, Arrays: [][]int{{1, 2, 3}}}
		if got := ran(t, p, nil, 50); told(got) != told(end) {
			t.Errorf("%q: %v, want %v", s, got, end)
		}
	}
}

// P120, P121: terms that are wrong, of x = -7, y = 2, z = 2^40, a = 1 2 3, wherever they stand; what was done ahead of them stays.
func TestWrongTerms(t *testing.T) {
	wrongs := []string{
		"1/0", "1%0", "0/0", "0%0", "x/(y-2)", "x%(y-2)", "0*(1/0)", "1/0*0", "1/(1/2)", "1%(x+7)", "1/a[0]*(1/(a[0]-1))", "z/(z-z)",
		"a[3]", "a[-1]", "a[x]", "a[z]", "a[-z]", "a[a[2]]", "a[a[1]+1]", "a[1/0]", "0*a[3]", "a[0]+a[1]+a[2]+a[3]",
		"z+1", "1+z", "-z-1", "-1-z", "z--1", "z+z", "-z-z", "z*2", "2*z", "-z*2", "z*-2", "-2*-z", "z*z", "-z*z", "z*-z", "-z*-z", "z*z*z", "z*z/z", "z*2/2", "z+1-1", "0*(z+1)", "(z+1)*0", "(z+1)/2", "(z+1)%2", "2*z-z", "z+z-z",
		"1048576*1048577", "1048577*-1048576", "-1048577*-1048577", "3*366503875926", "-3*366503875926", "366503875926*3", "4294967296*4294967296", "-4294967296*4294967296", "4294967296*2147483648", "8589934592*2147483648", "1099511627775*1099511627775", "524289*2097152", "1000000*1000000*2", "z*16777216", "z*8388608", "-z*16777216", "68719476736*268435456",
	}
	for _, e := range wrongs {
		for _, form := range []string{
			"r=%s;", "r=1+(%s);", "r=(%s)-1;", "r=-(%s);", "r=0*(%s);", "r=(%s)*0;", "r=a[(%s)*0];", "r=a[0]*(%s);",
			"a[%s]=9;", "a[0]=%s;", "a[(%s)*0]=9;", "a[0]=(%s)*0;", "r=call f(%s);", "r=call f((%s)*0);", "r=call g(1,%s);", "r=call g(%s,1);",
			"assert %s==1 or true;", "assume 1==%s or true;", "if %s==1{r=9;}else{r=8;}", "while 1!=%s{r=9;}", "assert y==2 and %s<1;", "assert y==1 or %s<1;", "assert y==2 and %s<1 or true;",
		} {
			p := read(t, "var x;var y;var z;var r;array a[3];proc f(u){r=7;return 9;}proc g(v,w){r=7;return 9;}main{x=-7;y=2;z=1099511627776;a[0]=1;a[1]=2;a[2]=3;r=5;"+fmt.Sprintf(form, e)+"r=6;}")
			end := End{Kind: "wrong", Steps: 8, Vars: []int{-7, 2, api.MaxValue, 5}, Arrays: [][]int{{1, 2, 3}}}
			if got := ran(t, p, nil, 50); told(got) != told(end) {
				t.Errorf("%q in %q: %v, want %v", e, form, got, end)
			}
		}
	}
}

// P100, P121: each relation, of numbers below, at and above another one.
func TestRelations(t *testing.T) {
	for rel, want := range map[string]string{"<": "tff", "<=": "ttf", "==": "ftf", "!=": "tft", ">": "fft", ">=": "ftt"} {
		for i, a := range []int{-1, 0, 1} {
			for _, near := range []int{0, -5, 5, api.MaxValue - 1, 1 - api.MaxValue} {
				p := read(t, "var x;var y;main{read x;read y;assert x"+rel+"y;}")
				kind := "failed"
				if want[i] == 't' {
					kind = "done"
				}
				if got := ran(t, p, []int{near + a, near}, 9); got.Kind != kind {
					t.Errorf("%d %s %d: %v", near+a, rel, near, got)
				}
			}
		}
	}
}

// P121: conditions are looked at until it is plain: `1/x` is wrong, as x is 0.
func TestConditions(t *testing.T) {
	for s, want := range map[string]string{
		"true": "t", "false": "f", "x==0": "t", "x==1": "f",
		"x==0 and x<1": "t", "x==0 and x<0": "f", "x<0 and x==0": "f", "x<0 and x>0": "f",
		"x==0 or x<1": "t", "x==0 or x<0": "t", "x<0 or x==0": "t", "x<0 or x>0": "f",
		"x<0 or x>0 or x>=0": "t", "x==0 and x<1 and x>0": "f", "x<0 and x==0 or x==0": "t", "x==0 or x<0 and x<0": "t", "x==0 and x<0 or x<0 and x==0": "f", "x==0 and x<0 or x==0 and x<1": "t",
		"true or true": "t", "x<0 or true": "t", "true or x<0": "t",
		"1/x==1": "w", "x==1/x": "w", "1/x==1 or true": "w", "true or 1/x==1": "t", "x==0 or 1/x==1": "t", "1/x==1 or x==0": "w", "x==1 or 1/x==1": "w",
		"x==1 and 1/x==1": "f", "1/x==1 and x==1": "w", "x==0 and 1/x==1": "w", "x==1 and 1/x==1 or x==0": "t", "x==1 and 1/x==1 or x==1": "f", "x==1 and 1/x==1 or 1/x==1": "w", "x==0 and x==1 and 1/x==1": "f", "x==0 and x==1 and 1/x==1 or x==0 or 1/x==1": "t", "x==0 and x==0 or 1/x==1": "t",
	} {
		for form, ends := range map[string][2]string{
			"assert %s;":                   {"{done 1 [0 0] []}", "{failed 1 [0 0] []}"},
			"assume %s;":                   {"{done 1 [0 0] []}", "{stuck 1 [0 0] []}"},
			"if %s{y=1;}":                  {"{done 2 [0 1] []}", "{done 1 [0 0] []}"},
			"if %s{y=1;}else{y=2;}":        {"{done 2 [0 1] []}", "{done 2 [0 2] []}"},
			"while %s{y=1;assert false;}":  {"{failed 3 [0 1] []}", "{done 1 [0 0] []}"},
			"while %s{y=1;assume y!=1;}":   {"{stuck 3 [0 1] []}", "{done 1 [0 0] []}"},
			"if true{if %s{}else{y=7/x;}}": {"{done 2 [0 0] []}", "{wrong 3 [0 0] []}"},
		} {
			end := map[string]string{"t": ends[0], "f": ends[1], "w": "{wrong 1 [0 0] []}"}[want]
			if want == "w" && strings.HasPrefix(form, "if true") {
				end = "{wrong 2 [0 0] []}"
			}
			sees(t, map[string]string{"var x;var y;main{" + fmt.Sprintf(form, s) + "}": end})
		}
	}
}

// P120 to P122: calls: what they do, how many steps they are, and what stays done.
func TestCalls(t *testing.T) {
	sees(t, map[string]string{
		"var x;proc f(){return 7;}main{x=call f();}":                                                                    "{done 1 [7] []}",
		"var x;proc f(u){return u*2;}main{x=call f(4);}":                                                                "{done 1 [8] []}",
		"var x;proc f(u,v){return u-v;}main{x=call f(9,4);}":                                                            "{done 1 [5] []}",
		"var x;proc f(u){u=u+1;u=u*2;return u;}main{x=call f(4);x=call f(x);}":                                          "{done 6 [22] []}",
		"var x;var y;proc f(u){x=u;return x+1;}main{y=call f(4);}":                                                      "{done 2 [4 5] []}",
		"var x;proc f(u){x=u;return x+1;}main{x=call f(4);}":                                                            "{done 2 [5] []}",
		"var x;proc f(u){x=100;return u;}main{x=3;x=call f(x+1);}":                                                      "{done 3 [4] []}",
		"var x;proc f(u,v){return u*10+v;}main{x=3;x=call f(x,x+1);}":                                                   "{done 2 [34] []}",
		"var x;proc f(u){return u+1;}proc g(v){v=call f(v*2);return v*10;}main{x=call g(3);}":                           "{done 2 [70] []}",
		"var x;var y;proc f(u){u=u+1;return u;}proc g(v){y=call f(v);v=call f(v*10);return v*100+y;}main{x=call g(3);}": "{done 5 [3104 4] []}",
		"var x;var y;proc f(u){while u>0{u=u-1;x=x+2;}return u;}main{y=call f(3);y=call f(1);}":                         "{done 16 [8 0] []}",
		"var x;var y;proc f(u){if u<2{x=x+1;}else{x=x+10;}return x;}main{y=call f(1);y=call f(2);}":                     "{done 6 [11 11] []}",
		"var x;array a[2];proc f(u){a[u]=u+5;return a[u];}main{x=call f(1);}":                                           "{done 2 [6] [[0 6]]}",
		"var x;proc f(u){read u;return u;}main{x=call f(1);}":                                                           "{done 2 [5] []}",
		"var x;proc f(u){read x;return u;}main{x=call f(1);read x;}":                                                    "{done 3 [6] []}",
		"var x;proc f(u){return u;}proc g(v){return v;}proc h(w){w=call f(w);w=call g(w);return w;}main{x=call h(2);}":  "{done 3 [2] []}",
		"var x;proc f(u){return x;}main{x=4;while x<8{x=call f(0);x=x+1;}}":                                             "{done 14 [8] []}",
		// The variable of a call is set last, by what the procedure left.
		"var x;var y;proc f(){y=y+1;x=9;return y;}main{x=call f();x=call f();}": "{done 6 [2 2] []}",
		// Each call sets parameters anew, and what was done to them is gone.
		"var x;var y;proc f(u,v){u=u+v;v=100;return u;}main{x=call f(1,2);y=call f(3,4);}": "{done 6 [3 7] []}",
		// What ends a run inside leaves the call's variable as it was, and all else as it is.
		"var x;var y;proc f(u){y=u;u=1/0;y=8;return u;}main{x=3;x=call f(4);}":                     "{wrong 4 [3 4] []}",
		"var x;var y;proc f(u){y=u;assert false;y=8;return u;}main{x=3;x=call f(4);}":              "{failed 4 [3 4] []}",
		"var x;var y;proc f(u){y=u;assume u==5;y=8;return u;}main{x=3;x=call f(4);}":               "{stuck 4 [3 4] []}",
		"var x;var y;proc f(u){y=u;while true{}return u;}main{x=3;x=call f(4);}":                   "{tired 50 [3 4] []}",
		"var x;var y;proc f(u){y=u;return 1/(y-4);}main{x=3;x=call f(4);}":                         "{wrong 3 [3 4] []}",
		"var x;array a[2];proc f(u){a[0]=u;return a[2];}main{x=3;x=call f(4);}":                    "{wrong 3 [3] [[4 0]]}",
		"var x;var y;proc f(u){y=6;return u;}main{x=3;x=call f(1/0);}":                             "{wrong 2 [3 0] []}",
		"var x;var y;proc f(u,v){y=6;return u;}main{x=3;x=call f(1,1/0);}":                         "{wrong 2 [3 0] []}",
		"var x;proc f(u){x=u;return 1/0;}proc g(v){v=call f(v+1);x=9;return v;}main{x=call g(1);}": "{wrong 3 [2] []}",
		// Procedures that nobody calls do nothing.
		"var x;proc f(u){x=1/0;return u;}main{x=2;}": "{done 1 [2] []}",
	})
}

// P120: Check's errors first, then what is handed over beside the program; nothing else is told.
func TestRunErrors(t *testing.T) {
	right := read(t, "var x;main{x=1;}")
	fails := func(p lang.Program, input []int, fuel int, want error) {
		t.Helper()
		if e, err := Run(p, input, fuel); err != want || told(e) != told(End{}) {
			t.Errorf("%.200s %v %d: %v %v, want %v", told(p), input, fuel, e, err, want)
		}
	}
	bounds := []struct {
		input []int
		fuel  int
	}{
		{nil, -1}, {nil, api.MaxFuel + 1}, {nil, -1 << 63}, {nil, 1<<63 - 1},
		{make([]int, api.MaxInput+1), 1}, {make([]int, 100000), 1}, {[]int{api.MaxValue + 1}, 1}, {[]int{-api.MaxValue - 1}, 1}, {[]int{1<<63 - 1}, 1}, {[]int{-1 << 63}, 1},
		{[]int{1, 2, api.MaxValue + 1}, 1}, {slices.Concat(make([]int, api.MaxInput-1), []int{-1 << 63}), 0}, {[]int{api.MaxValue + 1}, -1},
	}
	wrongs := map[error][]lang.Program{
		api.ErrShape: {{Vars: []string{"?"}}, {Main: []lang.Stmt{{}}}, {Main: make([]lang.Stmt, 100000)}, {Procs: make([]lang.Proc, 3)}, read(t, "var x;main{"+strings.Repeat("x=1;", 450)+"}"), read(t, "var x;proc f(u){return 1;}main{x=call f();}")},
		api.ErrBound: {read(t, "array a[17];main{}"), read(t, "array a[0];main{}")},
		api.ErrName:  {read(t, "main{x=1;}"), read(t, "var x;var x;main{}"), read(t, "var x;main{x=call f();}"), read(t, "var x;proc f(u){return u;}main{x=u;}")},
	}
	for _, b := range bounds {
		fails(right, b.input, b.fuel, api.ErrBound)
	}
	for want, l := range wrongs {
		for _, p := range l {
			fails(p, nil, 1, want)
			for _, b := range bounds {
				fails(p, b.input, b.fuel, want)
			}
		}
	}
	for _, fuel := range []int{0, 1, api.MaxFuel} {
		ran(t, right, make([]int, api.MaxInput), fuel)
		ran(t, right, []int{api.MaxValue, -api.MaxValue}, fuel)
	}
}
