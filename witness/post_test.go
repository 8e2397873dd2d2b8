package witness_test

import (
	"slices"
	"testing"

	"witness/api"
	"witness/witness"
)

func wantPost(t *testing.T, src string, p int, way int, o []int, want []int) {
	t.Helper()
	got, e := witness.Post(src, p, way, o)
	if e != api.OK || !same(got, want) {
		t.Errorf("P9: Post(%q, %d, %d) of %s is %s, %d, want %s", src, p, way, tell(o), tell(got), e, tell(want))
	}
}

func wantSafe(t *testing.T, src string, p int, o []int, want bool) {
	t.Helper()
	got, e := witness.Safe(src, p, o)
	if e != api.OK || got != want {
		t.Errorf("P10: Safe(%q, %d) of %s is %v, %d, want %v", src, p, tell(o), got, e, want)
	}
}

func TestPostOfAssignments(t *testing.T) {
	for _, c := range []struct{ src, o, want string }{
		{"a=b+2;", "b<=5 -b<=0", "b<=5 -b<=0 a<=7 -a<=-2 a+b<=12 -a-b<=-2 a-b<=2 -a+b<=-2"},
		{"a=b;", "", "a-b<=0 -a+b<=0"},
		{"a=-b;", "", "a+b<=0 -a-b<=0"},
		{"a=-b-3;", "", "a+b<=-3 -a-b<=3"},
		{"d=c-99;", "", "-c+d<=-99 c-d<=99"},
		{"d=-c+99;", "", "c+d<=99 -c-d<=-99"},
		// What was said of the variable is forgotten, but not what followed from it.
		{"a=b;", "a<=3", "a-b<=0 -a+b<=0"},
		{"a=b;", "a<=3 -a+b<=1", "b<=4 a<=4 a+b<=8 a-b<=0 -a+b<=0"},
		{"a=0;", "a+c<=3 -a+d<=4", "c+d<=7 a<=0 -a<=0"},
		{"a=*;", "a+c<=3 -a+d<=4", "c+d<=7 a<=999 -a<=999"},
		{"a=1;", "a+b<=3 a-b<=-2", "a<=1 -a<=-1"},
		{"b=0;", "a+b<=3 a-b<=-2", "a<=0 b<=0 -b<=0 a+b<=0 a-b<=0"},
		// What is known of the other goes over.
		{"a=b+1;", "b-c<=2 b+d<=3", "b-c<=2 b+d<=3 a-b<=1 -a+b<=-1 a-c<=3 a+d<=4"},
		{"a=-b+1;", "b-c<=2", "b-c<=2 a+b<=1 -a-b<=-1 -a-c<=1"},
		{"c=a;", "a<=3 -a<=-3", "a<=3 -a<=-3 c<=3 -c<=-3 a+c<=6 a-c<=0 -a+c<=0 -a-c<=-6"},
		// The variable itself.
		{"a=a;", "a<=3 b<=4", "a<=3 b<=4 a+b<=7"},
		{"a=a+2;", "a<=3 a-b<=1 a+c<=5", "a<=5 a-b<=3 a+c<=7"},
		{"a=a+2;", "a<=3 a-b<=1 -a-c<=5", "a<=5 a-b<=3 -a-c<=3 -c<=8 a-c<=13 -b-c<=6"},
		{"a=a-2;", "a<=3 -a<=0", "a<=1 -a<=2"},
		{"a=-a;", "a-b<=3", "-a-b<=3"},
		{"a=-a;", "a<=3 -a<=1", "a<=1 -a<=3"},
		{"a=-a-1;", "a<=5 -a<=0", "a<=-1 -a<=6"},
		{"b=-b+7;", "a+b<=1 b-d<=2", "a-b<=-6 -b-d<=-5"},
		{"a=a+99;", "", ""},
		// A number.
		{"a=7;", "a<=5", "a<=7 -a<=-7"},
		{"a=-7;", "b<=1", "a<=-7 -a<=7 b<=1 a+b<=-6 -a+b<=8"},
		{"c=0;", "b<=1 -b<=1", "b<=1 -b<=1 c<=0 -c<=0 b+c<=1 b-c<=1 -b+c<=1 -b-c<=1"},
		// Any value that a run can take.
		{"a=*;", "", "a<=999 -a<=999"},
		{"a=*;", "a<=-2000", "a<=999 -a<=999"},
		{"a=*;", "b<=1", "b<=1 a<=999 -a<=999 a+b<=1000 -a+b<=1000"},
		{"d=*;", "-c<=-5", "-c<=-5 d<=999 -d<=999 -c+d<=994 -c-d<=994"},
		{"b=*;", "a+b<=3 a-b<=4", "a<=3 b<=999 -b<=999 a+b<=1002 a-b<=1002"},
		// Here every whole number may be a value.
		{"a=a+99;", "a<=999 -a<=-999", "a<=1098 -a<=-1098"},
		{"a=b-99;", "b<=-3000 -b<=4000", "b<=-3000 -b<=4000 a<=-3099 -a<=4099 a+b<=-6099 a-b<=-99 -a+b<=99 -a-b<=8099"},
		{"a=a+1;", "a<=4000 b<=4000", "a<=4001 b<=4000 a+b<=8001"},
		// What is handed in need not be sharp.
		{"c=a+1;", "a<=9 a+b<=2 a-b<=1", "a<=1 a+b<=2 a-b<=1 c<=2 a+c<=3 a-c<=-1 -a+c<=1 b+c<=3 -b+c<=2"},
	} {
		wantPost(t, c.src, 0, 0, oct(c.o), oct(c.want))
	}
}

func TestPostOfConditions(t *testing.T) {
	none := "none"
	for _, c := range []struct{ condition, o, holds, fails string }{
		{"a<=3", "", "a<=3", "-a<=-4"},
		{"-a<=-3", "", "-a<=-3", "a<=2"},
		{"a<=-1", "", "a<=-1", "-a<=0"},
		{"a+b<=99", "", "a+b<=99", "-a-b<=-100"},
		{"a-b<=0", "", "a-b<=0", "-a+b<=-1"},
		{"-c+d<=2", "", "-c+d<=2", "c-d<=-3"},
		{"-b-d<=-99", "", "-b-d<=-99", "b+d<=98"},
		// The two of a form stand in either order.
		{"d-c<=2", "", "-c+d<=2", "c-d<=-3"},
		{"-d+a<=2", "", "a-d<=2", "-a+d<=-3"},
		{"-d-a<=2", "", "-a-d<=2", "a+d<=-3"},
		{"b+a<=2", "", "a+b<=2", "-a-b<=-3"},
		{"a<=3", "a<=5 -a<=0", "a<=3 -a<=0", "a<=5 -a<=-4"},
		{"a<=5", "a<=5 -a<=0", "a<=5 -a<=0", none},
		{"a<=4", "a<=5 -a<=0", "a<=4 -a<=0", "a<=5 -a<=-5"},
		{"a<=0", "a<=5 -a<=0", "a<=0 -a<=0", "a<=5 -a<=-1"},
		{"a<=-1", "a<=5 -a<=0", none, "a<=5 -a<=0"},
		// What follows is told too.
		{"a<=3", "b<=4", "a<=3 b<=4 a+b<=7", "-a<=-4 b<=4 -a+b<=0"},
		{"a+b<=2", "a-b<=1", "a+b<=2 a-b<=1 a<=1", "-a-b<=-3 a-b<=1 -b<=-1"},
		{"a-b<=0", "b-c<=0 c-d<=0", "b-c<=0 c-d<=0 b-d<=0 a-b<=0 a-c<=0 a-d<=0", "b-c<=0 c-d<=0 b-d<=0 -a+b<=-1"},
		{"a+b<=0", "-a<=0 -b<=0", "-a<=0 -b<=0 a<=0 b<=0 a+b<=0 a-b<=0 -a+b<=0 -a-b<=0", "-a<=0 -b<=0 -a-b<=-1"},
		// No whole numbers are left: 2a would be 1.
		{"a+b<=1", "-a-b<=-1 a-b<=0 -a+b<=0", none, "-a-b<=-2 a-b<=0 -a+b<=0 -a<=-1 -b<=-1"},
		{"-a-b<=-1", "a+b<=1 a-b<=0 -a+b<=0", none, "a+b<=0 a-b<=0 -a+b<=0 a<=0 b<=0"},
		{"a<=3", "a<=4000 b<=4000", "a<=3 b<=4000 a+b<=4003", "a<=4000 b<=4000 a+b<=8000 -a<=-4 -a+b<=3996"},
		{"*", "a<=3 b<=4", "a<=3 b<=4 a+b<=7", "a<=3 b<=4 a+b<=7"},
		{"*", "", "", ""},
		{"a<=3", "a<=1 -a<=-2", none, none},
		{"*", "a<=1 -a<=-2", none, none},
		{"*", "a+b<=1 -a-b<=-1 a-b<=0 -a+b<=0", none, none},
	} {
		want := [2][]int{}
		for way, told := range []string{c.holds, c.fails} {
			if told != none {
				want[way] = oct(told)
			}
		}
		for way := range want {
			wantPost(t, "?"+c.condition+"{}{}", 0, way, oct(c.o), want[way])
			wantPost(t, "@"+c.condition+"{}", 0, way, oct(c.o), want[way])
			wantPost(t, "?"+c.condition+"{a=1;}{b=*;}", 0, way, oct(c.o), want[way])
		}
		wantPost(t, "!"+c.condition+";", 0, 0, oct(c.o), want[0])
	}
}

// What a value is made of may have no states at all.
func TestPostOfEmptyOnes(t *testing.T) {
	for _, told := range []string{"a<=1 -a<=-2", "d<=1 -d<=-2", "a+b<=1 -a-b<=-1 a-b<=0 -a+b<=0", "a<=-4000 -a+b<=-4000 -b<=-4000"} {
		for _, value := range []string{"*", "0", "-9", "a", "-a", "a+1", "-a-1", "b", "d", "-d+99"} {
			wantPost(t, "a="+value+";", 0, 0, oct(told), nil)
			wantSafe(t, "a="+value+";", 0, oct(told), true)
		}
		for _, condition := range []string{"*", "a<=-99", "-a-b<=99"} {
			wantSafe(t, "!"+condition+";", 0, oct(told), true)
		}
	}
}

func TestSafe(t *testing.T) {
	for _, c := range []struct {
		src, o string
		want   bool
	}{
		{"!a<=5;", "a<=5", true},
		{"!a<=5;", "a<=6", false},
		{"!a<=5;", "-a<=6", false},
		{"!a<=5;", "", false},
		{"!-a<=-5;", "-a<=-5", true},
		{"!-a<=-5;", "-a<=-4", false},
		{"!a+b<=5;", "a<=2 b<=3", true},
		{"!b+a<=5;", "a<=3 b<=3", false},
		{"!a<=1;", "a+b<=3 a-b<=0", true},
		{"!a<=0;", "a+b<=3 a-b<=0", false},
		{"!d-a<=0;", "-a+b<=1 -b+c<=-3 -c+d<=2", true},
		{"!d-a<=-1;", "-a+b<=1 -b+c<=-3 -c+d<=2", false},
		{"!*;", "", false},
		{"!*;", "a<=5", false},
		{"a=*;", "", true},
		{"a=0;", "", true},
		{"a=99;", "", true},
		{"a=-99;", "a<=-4000", true},
		{"a=b;", "", false},
		{"a=b;", "b<=999", false},
		{"a=b;", "-b<=999", false},
		{"a=b;", "b<=999 -b<=999", true},
		{"a=b;", "b<=1000 -b<=999", false},
		{"a=b;", "b<=999 -b<=1000", false},
		{"a=b;", "a<=5 -a<=5", false},
		{"a=-b;", "b<=999 -b<=999", true},
		{"a=-b;", "b<=1000 -b<=999", false},
		{"a=-b;", "b<=999 -b<=1000", false},
		{"a=a+1;", "a<=998 -a<=999", true},
		{"a=a+1;", "a<=999 -a<=999", false},
		{"a=a+1;", "a<=998", false},
		{"a=a+1;", "-a<=998", false},
		{"a=a+1;", "a<=998 -a<=1000", true},
		{"a=a+1;", "a<=998 -a<=1001", false},
		{"a=a-99;", "a<=1098 -a<=900", true},
		{"a=a-99;", "a<=1099 -a<=900", false},
		{"a=a-99;", "a<=1098 -a<=901", false},
		{"a=-b-1;", "b<=998 -b<=1000", true},
		{"a=-b-1;", "b<=999 -b<=1000", false},
		{"a=-b-1;", "b<=998 -b<=1001", false},
		{"a=-b+99;", "b<=1098 -b<=900", true},
		{"a=-b+99;", "b<=1098 -b<=901", false},
		{"a=-b+99;", "b<=1099 -b<=900", false},
		// It is the value that counts: not what the variable was, nor the others.
		{"a=b;", "a<=4000 -a<=-4000 b<=0 -b<=0 c<=4000 -c<=-4000", true},
		// The bounds that are told are not the sharpest.
		{"a=b;", "b<=2000 -b<=0 a<=0 -a+b<=999", true},
		{"a=b;", "b<=2000 -b<=0 a<=1 -a+b<=999", false},
		{"?*{}{}", "", true},
		{"?a<=1{}{}", "", true},
		{"@*{}", "", true},
		{"@a<=1{a=b;}", "", true},
	} {
		wantSafe(t, c.src, 0, oct(c.o), c.want)
	}
}

// The statement is that of the point, at any depth.
func TestPostAndSafeAtTheirPoint(t *testing.T) {
	src := "a=1;?a<=2{!b<=3;@*{b=4;}}{!*;}!c<=5;"
	o := oct("b<=9")
	wantPost(t, src, 0, 0, o, oct("a<=1 -a<=-1 b<=9 a+b<=10 -a+b<=8"))
	wantPost(t, src, 1, 0, o, oct("a<=2 b<=9 a+b<=11"))
	wantPost(t, src, 1, 1, o, oct("-a<=-3 b<=9 -a+b<=6"))
	wantPost(t, src, 2, 0, o, oct("b<=3"))
	wantPost(t, src, 3, 0, o, o)
	wantPost(t, src, 3, 1, o, o)
	wantPost(t, src, 4, 0, o, oct("b<=4 -b<=-4"))
	wantPost(t, src, 5, 0, o, o)
	wantPost(t, src, 6, 0, o, oct("b<=9 c<=5 b+c<=14"))
	for p, want := range []bool{true, true, false, true, true, false, false} {
		wantSafe(t, src, p, o, want)
	}
}

func wantPostError(t *testing.T, src string, p int, way int, o []int, want api.Errno) {
	t.Helper()
	if got, e := witness.Post(src, p, way, o); got != nil || e != want {
		t.Errorf("P9: Post(%.40q, %d, %d, %d bounds) = %v, %d, want %d", src, p, way, len(o), got, e, want)
	}
}

func wantSafeError(t *testing.T, src string, p int, o []int, want api.Errno) {
	t.Helper()
	if got, e := witness.Safe(src, p, o); got || e != want {
		t.Errorf("P10: Safe(%.40q, %d, %d bounds) = %v, %d, want %d", src, p, len(o), got, e, want)
	}
}

func TestPostAndSafeErrors(t *testing.T) {
	src := "a=1;!*;?*{}{}@*{}"
	wrong := oct("")
	wrong[31] = 4001
	octagons := [][]int{oct(""), oct("a<=1 -a<=-2"), nil, {}, make([]int, 31), make([]int, 33), wrong}
	for i, o := range octagons {
		for _, text := range []string{"a=1", "x", "@*{", src + src + src + src + src + "!*;"} {
			wantPostError(t, text, 0, 0, o, api.ErrText)
			wantPostError(t, text, -1, 7, o, api.ErrText)
			wantSafeError(t, text, 0, o, api.ErrText)
			wantSafeError(t, text, -1, o, api.ErrText)
		}
		for _, p := range []int{-1 << 63, -1, 4, 5, 20, 21, 1<<63 - 1} {
			wantPostError(t, src, p, 0, o, api.ErrPoint)
			wantSafeError(t, src, p, o, api.ErrPoint)
			wantPostError(t, "", p, 0, o, api.ErrPoint)
			wantSafeError(t, "", p, o, api.ErrPoint)
		}
		wantPostError(t, "", 0, 0, o, api.ErrPoint)
		wantSafeError(t, "", 0, o, api.ErrPoint)
		for p := range 4 {
			for _, way := range []int{-1 << 63, -1, 2, 3, 1<<63 - 1} {
				wantPostError(t, src, p, way, o, api.ErrPoint)
			}
			if p < 2 {
				wantPostError(t, src, p, 1, o, api.ErrPoint)
			}
			if i > 1 {
				wantPostError(t, src, p, 0, o, api.ErrBound)
				wantSafeError(t, src, p, o, api.ErrBound)
			}
			if i > 1 && p > 1 {
				wantPostError(t, src, p, 1, o, api.ErrBound)
			}
		}
	}
}

// Answers may have bounds that are not taken again.
func TestPostBeyondWhatIsTaken(t *testing.T) {
	o := slices.Repeat([]int{4000}, 32)
	after, e := witness.Post("a=a+1;", 0, 0, o)
	if e != api.OK || len(after) != 32 || after[0] != 4001 || after[1] != 3999 || after[2] != 4000 || after[8] != 4001 {
		t.Errorf("P9: Post is %v, %d", after, e)
	}
	wantPostError(t, "a=a+1;", 0, 0, after, api.ErrBound)
	wantSafeError(t, "a=a+1;", 0, after, api.ErrBound)
}
