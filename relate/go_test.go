package relate

import (
	"testing"

	"raycone/octagon"
)

type step struct{ act, want string }

func checkSteps(t *testing.T, of, from string, steps []step) {
	t.Helper()
	for _, c := range steps {
		s, err := Go(names(), chosen(of), loose(of, from), actOf(t, c.act))
		if want := state(of, c.want); !same(s, want) || err != nil {
			t.Errorf("%s: %s: %s %v, want %s", from, c.act, said(of, s), err, said(of, want))
		}
	}
}

// P151: what is set, read, or not touched.
func TestGoSets(t *testing.T) {
	const some = "x<=3 -x<=0 y-x<=2"
	checkSteps(t, "xy", some, []step{
		{"while true{}", some},
		{"read z;", some},
		{"read x;", "y<=5"},
		{"read y;", "x<=3 -x<=0"},
		{"z=5;", some},
		{"z=x*y+a[0];", some},
		{"w=7/x;", some},
		{"x=5;", "x=5 y<=5"},
		{"x=-5;", "x=-5 y<=5"},
		{"x=2*3-7;", "x=-1 y<=5"},
		{"x=y;", "x-y=0 y<=5"},
		{"x=y+2;", "x-y=2 y<=5"},
		{"x=y-2;", "x-y=-2 y<=5"},
		{"x=y+1000;", "x-y=1000 y<=5"},
		{"x=y-1000;", "x-y=-1000 y<=5"},
		{"x=-y;", "x+y=0 y<=5"},
		{"x=-y+2;", "x+y=2 y<=5"},
		{"x=-y-2;", "x+y=-2 y<=5"},
		{"x=2+y;", "x-y=2 y<=5"},
		{"x=2-y;", "x+y=2 y<=5"},
		{"x=-(y-2);", "x+y=2 y<=5"},
		{"x=2*y-y;", "x-y=0 y<=5"},
		{"x=z-z+y+x-x;", "x-y=0 y<=5"},
		{"y=x;", "x<=3 -x<=0 y-x=0"},
		{"y=x+2;", "x<=3 -x<=0 y-x=2"},
		{"y=-x-1;", "x<=3 -x<=0 y+x=-1"},
		{"x=x;", some},
		{"x=x+1;", "x<=4 -x<=-1 y-x<=1"},
		{"x=x-1;", "x<=2 -x<=1 y-x<=3"},
		{"x=-x;", "x<=0 -x<=3 x+y<=2"},
		{"x=3-x;", "x<=3 -x<=0 x+y<=5"},
		{"x=z;", "y<=5"},
		{"x=z+1;", "y<=5"},
		{"x=y-z;", "y<=5"},
		{"x=a[0];", "y<=5"},
	})
	// What no octagon tells just so is told by intervals.
	checkSteps(t, "xy", some, []step{
		{"x=x+y;", "x<=8 y<=5"},
		{"y=2*x;", "x<=3 -x<=0 y<=6 -y<=0"},
		{"y=x*x;", "x<=3 -x<=0 y<=9 -y<=0"},
		{"y=x%2;", "x<=3 -x<=0 y<=1 -y<=0"},
		{"y=8/x;", "x<=3 -x<=-1 y<=8 -y<=-2"},
		{"y=a[x];", "x<=2 -x<=0"},
		{"y=a[x]*0;", "x<=2 -x<=0 y=0"},
		{"x=x/2;", "x<=1 -x<=0 y<=5"},
		{"y=1/0;", "none"},
		{"y=a[3];", "none"},
		{"a[0]=1;", some},
		{"a[x]=y;", "x<=2 -x<=0 y-x<=2"},
		{"a[x+1]=y;", "x<=1 -x<=0 y-x<=2"},
		{"a[z]=1;", some},
		{"b[x]=1;", "x=0 y<=2"},
		{"b[0]=1/x;", "x<=3 -x<=-1 y-x<=2"},
		{"a[3]=1;", "none"},
		{"a[0]=1/0;", "none"},
	})
}

// P151: tests, whichever side is which.
func TestGoTests(t *testing.T) {
	const some = "x<=3 -x<=0 y-x<=2"
	checkSteps(t, "xy", some, []step{
		{"assume true;", some},
		{"assume x<y;", some + " x-y<=-1"},
		{"assume y>x;", some + " x-y<=-1"},
		{"assume x<=y;", some + " x-y<=0"},
		{"assume x==y;", some + " x-y=0"},
		{"assume x>=y;", some + " y-x<=0"},
		{"assume x>y;", some + " y-x<=-1"},
		{"assume y<x;", some + " y-x<=-1"},
		{"assume x<2;", some + " x<=1"},
		{"assume x<=2;", some + " x<=2"},
		{"assume x==2;", some + " x=2"},
		{"assume x>=2;", some + " -x<=-2"},
		{"assume x>2;", some + " -x<=-3"},
		{"assume 2<x;", some + " -x<=-3"},
		{"assume 2<=x;", some + " -x<=-2"},
		{"assume 2==x;", some + " x=2"},
		{"assume 2>=x;", some + " x<=2"},
		{"assume 2>x;", some + " x<=1"},
		{"assume -1<y;", some + " -y<=0"},
		{"assume y>=-3;", some + " -y<=3"},
		{"assume x>3;", "none"},
		{"assume x<0;", "none"},
		{"assume x==4;", "none"},
		{"assume x==-1;", "none"},
		{"assume y>5;", "none"},
		{"assume y>=5;", "x=3 y=5"},
		{"assume x<y+1;", some + " x-y<=0"},
		{"assume x<=y-1;", some + " x-y<=-1"},
		{"assume x==y+2;", some + " x-y=2"},
		{"assume x==y-2;", some + " y-x=2"},
		{"assume x==y-3;", "none"},
		{"assume x>=y+1000;", some + " y-x<=-1000"},
		{"assume x>y-1000;", some},
		{"assume y+1<x;", some + " y-x<=-2"},
		{"assume y-1==x;", some + " y-x=1"},
		{"assume x-y<=1;", some + " x-y<=1"},
		{"assume x+y<=1;", some + " x+y<=1"},
		{"assume x==-y;", some + " x+y=0"},
		{"assume -x==y+1;", some + " x+y=-1"},
		{"assume 2*x<=5;", some + " x<=2"},
		{"assume 2*x>=5;", some + " x=3"},
		{"assume x+x==3;", "none"},
		{"assume 2*y-2*x<3;", some + " y-x<=1"},
		{"assume 3*x-3*y<=-4;", some + " x-y<=-2"},
		{"assume x<=x;", some},
		{"assume x<x;", "none"},
		{"assume x<x+1;", some},
		{"assume 0<1;", some},
		{"assume 1<0;", "none"},
		{"assume 1!=1;", "none"},
		{"assume x<z;", some},
		{"assume z==x+y;", some},
		{"assume z!=w;", some},
		{"assume z==z;", some},
		{"assume z>z;", "none"},
		{"assume x!=1;", some},
		{"assume x!=0;", some + " -x<=-1"},
		{"assume 3!=x;", some + " x<=2"},
		{"assume y!=x+2;", some + " y-x<=1"},
		{"assume x!=x;", "none"},
		{"assert x<2;", some + " -x<=-2"},
		{"assert x!=y;", some + " x-y=0"},
		{"assert x<4;", "none"},
	})
	// Several at once; and what no octagon tells just so.
	checkSteps(t, "xy", some, []step{
		{"assume x<y and y<2;", "x=0 y=1"},
		{"assume x<2 and x>2;", "none"},
		{"assume x!=0 and x<2;", some + " x=1"},
		{"assume x!=0 and x!=1 and x!=2;", some + " x=3"},
		{"assume x!=2 and x!=1 and x!=0;", some + " x=3"},
		{"assume x<z and x>2;", some + " x=3"},
		{"assume 2*x+y<=1;", some + " y<=1"},
		{"assume x*x<0;", "none"},
		{"assume x*x==9;", some + " -x<=-3"},
		{"assume a[x]>z;", some + " x<=2"},
		{"assume a[x]>z and y>=x;", "x<=2 -x<=0 y-x<=2 x-y<=0"},
		{"assume 8/x>3;", some + " -x<=-1"},
		{"assume 1/0==1;", "none"},
		{"assume x<1/0;", "none"},
	})
}

// P150, P151: of one variable, of none, of four, and of some between others.
func TestGoChoices(t *testing.T) {
	checkSteps(t, "x", "x<=3 -x<=0", []step{
		{"while true{}", "x<=3 -x<=0"},
		{"read x;", ""},
		{"read y;", "x<=3 -x<=0"},
		{"x=7;", "x=7"},
		{"x=2-x;", "x<=2 -x<=1"},
		{"x=y;", ""},
		{"y=x;", "x<=3 -x<=0"},
		{"assume x<2;", "x<=1 -x<=0"},
		{"assume x==2;", "x=2"},
		{"assume 1<=x;", "x<=3 -x<=-1"},
		{"assume x>3;", "none"},
		{"assume x!=3;", "x<=2 -x<=0"},
		{"assume x<y;", "x<=3 -x<=0"},
		{"assume x*x>8;", "x=3"},
		{"a[x]=0;", "x<=2 -x<=0"},
	})
	checkSteps(t, "", "", []step{
		{"while true{}", ""},
		{"read x;", ""},
		{"x=7;", ""},
		{"a[x]=0;", ""},
		{"assume x<y;", ""},
		{"assume 0<1;", ""},
		{"assume 1<0;", "none"},
		{"assume x*x<y;", ""},
		{"assume 1/0==1;", "none"},
	})
	checkSteps(t, "yw", "y-w<=2 -w<=-1", []step{
		{"x=5;", "y-w<=2 -w<=-1"},
		{"w=5;", "w=5"},
		{"w=y;", "w-y=0"},
		{"y=w-1;", "-w<=-1 w-y=1"},
		{"read w;", ""},
		{"read x;", "y-w<=2 -w<=-1"},
		{"assume y>w;", "y-w<=2 -w<=-1 w-y<=-1"},
		{"assume w==3;", "w=3 y<=5"},
		{"assume x==y;", "y-w<=2 -w<=-1"},
		{"a[w]=y;", "y-w<=2 -w<=-1 w<=2"},
		{"y=w*w;", "-w<=-1 -y<=-1"},
	})
	checkSteps(t, "xyzw", "x=1 y-x<=0 z-y<=2 w+z<=0", []step{
		{"x=w;", "x-w=0 y<=1 z-y<=2 w+z<=0"},
		{"assume z==y+2;", "x=1 y<=1 z-y=2 w+z<=0"},
	})
}

// P151: loose octagons, and such as have no point; nothing comes of nothing.
func TestGoStates(t *testing.T) {
	checkSteps(t, "xy", "x-y<=0 x<=7 x+y<=3", []step{{"while true{}", "x-y<=0 x<=1 x+y<=3"}, {"x=x+1;", "x<=2 x-y<=1 x+y<=4"}, {"z=1;", "x-y<=0 x<=1 x+y<=3"}, {"assume y<4;", "x-y<=0 x<=1 x+y<=3 y<=3"}})
	for _, from := range []string{"none", "x<=0 -x<=-1", "x-y<=0 y-x<=-1", "x+y=1 x-y=0"} {
		for _, act := range []string{"while true{}", "x=1;", "z=1;", "read x;", "read z;", "a[0]=1;", "assume true;", "assume x<y;", "assert x*x<y;", "y=x*y;"} {
			checkSteps(t, "xy", from, []step{{act, "none"}})
		}
	}
	for _, s := range []State{{None: true}, {None: true, Oct: flat(2)}, {None: true, Oct: octagon.Octagon{L: []octagon.Cell{}}}} {
		if to, err := Go(names(), chosen("xy"), s, actOf(t, "x=1;")); !to.None || to.Oct.N != 0 || len(to.Oct.L) > 0 || err != nil {
			t.Error(to, err)
		}
	}
}

// P151: numbers up to MaxValue: what is too great to be told counts in full.
func TestGoGreat(t *testing.T) {
	// Half of MaxValue is the most that a variable alone is told.
	checkSteps(t, "xy", "y=5", []step{
		{"x=1099511627776;", "y=5 x-y=M-5"},
		{"x=-1099511627776;", "y=5 x+y=-M+5"},
		{"x=549755813888;", "y=5 x=549755813888"},
		{"x=y+1099511627776;", "y=5 x-y=M"},
		{"x=y-1099511627776;", "y=5 y-x=M"},
		{"x=1099511627776+1;", "none"},
		{"assume x==1099511627776;", "y=5 x-y=M-5"},
		{"assume x<1099511627776;", "y=5 x-y<=M-6"},
		{"assume x>1099511627776;", "y=5 y-x<=-M+4"},
		{"assume x<-1099511627776;", "y=5 x+y<=-M+4"},
		{"assume -1099511627776<=x;", "y=5 -x-y<=M-5"},
		{"assume x+1099511627776<=y-1099511627776;", "y=5 x+y<=-M"},
		{"assume x-1099511627776<=y+1099511627776;", "y=5"},
		{"assume x<1099511627776+1;", "none"},
	})
	checkSteps(t, "xy", "y<=549755813888", []step{{"assume x>1099511627776;", "y<=549755813888 -x<=-549755813888 y-x<=-549755813889"}})
	checkSteps(t, "xy", "x-y<=M -x<=0", []step{{"x=x+5;", "-x<=-5 -x-y<=M-5"}, {"x=x-5;", "-x<=5 x-y<=M-5"}})
	// That a value is at most MaxValue is no news.
	checkSteps(t, "xy", "y=5", []step{{"x=z+1;", "y=5"}, {"x=y*z;", "y=5"}, {"assume x<z;", "y=5"}, {"assume x-1>=z;", "y=5"}})
	checkSteps(t, "xy", "-x<=0", []step{{"y=x*x;", "-x<=0 -y<=0"}, {"assume z*z>=x;", "-x<=0"}, {"read y;", "-x<=0"}})
}
