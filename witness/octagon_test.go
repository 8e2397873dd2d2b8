package witness_test

import (
	"fmt"
	"slices"
	"strconv"
	"strings"
	"testing"

	"witness/api"
	"witness/witness"
)

var formNames = []string{
	"a", "-a", "b", "-b", "c", "-c", "d", "-d",
	"a+b", "a-b", "-a+b", "-a-b",
	"a+c", "a-c", "-a+c", "-a-c",
	"a+d", "a-d", "-a+d", "-a-d",
	"b+c", "b-c", "-b+c", "-b-c",
	"b+d", "b-d", "-b+d", "-b-d",
	"c+d", "c-d", "-c+d", "-c-d",
}

// oct is the octagon of bounds that are told like "a<=3 a+b<=7".
func oct(told string) []int {
	o := slices.Repeat([]int{api.NoBound}, 32)
	for _, part := range strings.Fields(told) {
		name, number, _ := strings.Cut(part, "<=")
		n, err := strconv.Atoi(number)
		form := slices.Index(formNames, name)
		if err != nil || form < 0 {
			panic(part)
		}
		o[form] = n
	}
	return o
}

// tell is what oct reads, or nil.
func tell(o []int) string {
	if o == nil {
		return "nil"
	}
	if len(o) != 32 {
		return fmt.Sprintf("%d bounds", len(o))
	}
	told := []string{}
	for form, n := range o {
		if n != api.NoBound {
			told = append(told, fmt.Sprintf("%s<=%d", formNames[form], n))
		}
	}
	return strings.Join(told, " ")
}

// same tells nil from an empty list too.
func same(o, p []int) bool {
	return (o == nil) == (p == nil) && slices.Equal(o, p)
}

func wantClose(t *testing.T, o, want []int) {
	t.Helper()
	got, e := witness.Close(o)
	if e != api.OK || !same(got, want) {
		t.Errorf("P7: Close of %s is %s, %d, want %s", tell(o), tell(got), e, tell(want))
	}
}

func wantWithin(t *testing.T, o, p []int, want bool) {
	t.Helper()
	got, e := witness.Within(o, p)
	if e != api.OK || got != want {
		t.Errorf("P8: Within of %s and %s is %v, %d, want %v", tell(o), tell(p), got, e, want)
	}
}

func wantJoin(t *testing.T, o, p, want []int) {
	t.Helper()
	got, e := witness.Join(o, p)
	if e != api.OK || !same(got, want) {
		t.Errorf("P8: Join of %s and %s is %s, %d, want %s", tell(o), tell(p), tell(got), e, tell(want))
	}
}

func TestFormNumbers(t *testing.T) {
	for form, name := range map[int]string{0: "a", 7: "-d", 8: "a+b", 13: "a-c", 31: "-c-d"} {
		if formNames[form] != name {
			t.Errorf("the names are wrong: form %d is %s", form, name)
		}
	}
	// A form alone says nothing of the others.
	for form := range formNames {
		for _, n := range []int{-4000, -1, 0, 4000} {
			o := oct("")
			o[form] = n
			wantClose(t, o, o)
		}
	}
}

func TestClose(t *testing.T) {
	for _, c := range []struct{ o, more string }{
		{"", ""},
		{"a<=3 b<=4", "a+b<=7"},
		{"a+b<=2 a-b<=1", "a<=1"},
		{"a+b<=3 a-b<=-2", "a<=0"},
		{"-a-b<=-3 -a+b<=0", "-a<=-2"},
		{"a<=5 -a<=-5", ""},
		{"a-b<=1 b-c<=2 c-d<=3", "a-c<=3 a-d<=6 b-d<=5"},
		{"a+b<=1 -b+c<=2 -c-d<=3", "a+c<=3 -b-d<=5 a-d<=6"},
		// Rounding down of two bounds: together they say less than the two chains of sums.
		{"a+b<=1 a-b<=0 c+d<=1 c-d<=0", "a<=0 c<=0 a+c<=0"},
		{"a+b<=-1 a-b<=0 c+d<=-1 c-d<=0", "a<=-1 c<=-1 a+c<=-2"},
		// What is handed in is beyond what its other bounds say.
		{"a+b<=1 -a-b<=-1", ""},
	} {
		wantClose(t, oct(c.o), oct(c.o+" "+c.more))
	}
	wantClose(t, oct("a<=3 b<=4 a+b<=8"), oct("a<=3 b<=4 a+b<=7"))
	wantClose(t, oct("a<=9 a+b<=2 a-b<=1"), oct("a<=1 a+b<=2 a-b<=1"))
}

func TestCloseOfEmptyOnes(t *testing.T) {
	for _, told := range []string{
		"a-b<=-1 -a+b<=0",
		"d<=3 -d<=-4",
		"a+b<=1 -a-b<=-2",
		"c-d<=0 -c+d<=-1",
		"a-b<=-1 b-c<=-1 -a+c<=1",
		"a+b<=-1 -b+c<=0 -a-c<=0",
		"a<=1 b<=1 -a-b<=-3",
		// Fractions alone: 2a is 1; and the same with c and d, or at the end of a chain.
		"a+b<=1 -a-b<=-1 a-b<=0 -a+b<=0",
		"c+d<=-3 -c-d<=3 c-d<=0 -c+d<=0",
		"a+b<=1 a-b<=0 -a+c<=0 -a-c<=-1",
		"a+b<=1 a-b<=0 c+d<=1 c-d<=0 -a-c<=-1",
	} {
		wantClose(t, oct(told), nil)
	}
	wantClose(t, slices.Repeat([]int{-4000}, 32), nil)
	wantClose(t, slices.Repeat([]int{-1}, 32), nil)
}

func TestCloseAtTheGreatestBounds(t *testing.T) {
	wantClose(t, oct("a<=4000 b<=4000"), oct("a<=4000 b<=4000 a+b<=8000"))
	wantClose(t, oct("-c<=4000 -d<=4000"), oct("-c<=4000 -d<=4000 -c-d<=8000"))
	wantClose(t, oct("a<=-4000 b<=-4000"), oct("a<=-4000 b<=-4000 a+b<=-8000"))
	wantClose(t, oct("a<=4000 -a+b<=4000 -b+c<=4000 -c+d<=4000"),
		oct("a<=4000 b<=8000 c<=12000 d<=16000 -a+b<=4000 -a+c<=8000 -a+d<=12000 -b+c<=4000 -b+d<=8000 -c+d<=4000 a+b<=12000 a+c<=16000 a+d<=20000 b+c<=20000 b+d<=24000 c+d<=28000"))
	wantClose(t, oct("a<=-4000 -a+b<=-4000 -b+c<=-4000 -c+d<=-4000"),
		oct("a<=-4000 b<=-8000 c<=-12000 d<=-16000 -a+b<=-4000 -a+c<=-8000 -a+d<=-12000 -b+c<=-4000 -b+d<=-8000 -c+d<=-4000 a+b<=-12000 a+c<=-16000 a+d<=-20000 b+c<=-20000 b+d<=-24000 c+d<=-28000"))
	wide := slices.Repeat([]int{4000}, 32)
	wantClose(t, wide, wide)
}

func TestWithinAndJoin(t *testing.T) {
	none := "a<=1 -a<=-2"
	fraction := "a+b<=1 -a-b<=-1 a-b<=0 -a+b<=0"
	for _, c := range []struct {
		o, p   string
		in     bool
		joined string
	}{
		{"", "", true, ""},
		{"a<=3", "", true, ""},
		{"", "a<=3", false, ""},
		{"a<=3", "a<=3", true, "a<=3"},
		{"a<=3", "a<=4", true, "a<=4"},
		{"a<=4", "a<=3", false, "a<=4"},
		{"a<=-4", "a<=-5", false, "a<=-4"},
		{"a<=3 b<=4", "a+b<=7", true, "a+b<=7"},
		{"a<=3 b<=4", "a+b<=6", false, "a+b<=7"},
		{"a+b<=7", "a<=3 b<=4", false, "a+b<=7"},
		// Not sharp as it is handed in, on either side.
		{"a+b<=3 a-b<=0", "a<=1", true, "a<=1"},
		{"a<=9 a+b<=3 a-b<=0", "a<=1 a+b<=9", true, "a<=1 a+b<=9"},
		{"a<=3 b<=4", "a<=3 b<=4 a+b<=99", true, "a<=3 b<=4 a+b<=7"},
		{"a<=4000 b<=4000", "a<=4000 b<=4000 a+b<=4000", false, "a<=4000 b<=4000 a+b<=8000"},
		{"a<=4000 b<=4000", "a<=4000 b<=4000", true, "a<=4000 b<=4000 a+b<=8000"},
		{none, "a<=-9", true, "a<=-9"},
		{none, "a<=3 b<=4", true, "a<=3 b<=4 a+b<=7"},
		{"a<=3 b<=4", none, false, "a<=3 b<=4 a+b<=7"},
		{fraction, "a<=3", true, "a<=3"},
		{"a<=3", fraction, false, "a<=3"},
		{"a<=0 -a<=0", "a<=2 -a<=-2", false, "a<=2 -a<=0"},
		{"a<=0 -a<=0 b<=0 -b<=0", "a<=2 -a<=-2 b<=2 -b<=-2", false, "a<=2 -a<=0 b<=2 -b<=0 a+b<=4 a-b<=0 -a+b<=0 -a-b<=0"},
		{"a<=3", "b<=3", false, ""},
		{"c-d<=5 d<=1", "c-d<=2 d<=2", false, "c-d<=5 d<=2 c<=6 c+d<=7"},
	} {
		wantWithin(t, oct(c.o), oct(c.p), c.in)
		wantJoin(t, oct(c.o), oct(c.p), oct(c.joined))
		wantJoin(t, oct(c.p), oct(c.o), oct(c.joined))
	}
	for _, c := range [][2]string{{none, none}, {none, fraction}, {fraction, none}, {fraction, "d<=0 -d<=-1"}} {
		wantWithin(t, oct(c[0]), oct(c[1]), true)
		wantJoin(t, oct(c[0]), oct(c[1]), nil)
	}
}

func wantErrBound(t *testing.T, o []int) {
	t.Helper()
	empty := oct("a<=1 -a<=-2")
	for _, p := range [][]int{oct(""), empty, o} {
		for _, pair := range [][2][]int{{o, p}, {p, o}} {
			if in, e := witness.Within(pair[0], pair[1]); in || e != api.ErrBound {
				t.Errorf("P6: Within(%v, %v) = %v, %d", pair[0], pair[1], in, e)
			}
			if joined, e := witness.Join(pair[0], pair[1]); joined != nil || e != api.ErrBound {
				t.Errorf("P6: Join(%v, %v) = %v, %d", pair[0], pair[1], joined, e)
			}
		}
	}
	if closed, e := witness.Close(o); closed != nil || e != api.ErrBound {
		t.Errorf("P6: Close(%v) = %v, %d", o, closed, e)
	}
}

func TestNoOctagons(t *testing.T) {
	wantErrBound(t, nil)
	for n := range 70 {
		if n != 32 {
			wantErrBound(t, make([]int, n))
			wantErrBound(t, slices.Repeat([]int{api.NoBound}, n))
		}
	}
	for form := range 32 {
		for _, n := range []int{4001, -4001, 8000, api.NoBound - 1, api.NoBound + 1, -api.NoBound, 2 * api.NoBound, -1 << 63, 1<<63 - 1} {
			o := oct("")
			o[form] = n
			wantErrBound(t, o)
			// That it would be empty without this bound is no matter.
			o = slices.Repeat([]int{-1}, 32)
			o[form] = n
			wantErrBound(t, o)
		}
	}
	// The spare room is no part of a list.
	room := oct("a<=3")
	wantErrBound(t, room[:31])
	wantClose(t, append(oct("a<=3"), 4001)[:32], oct("a<=3"))
}

func TestAnswersMayBeBeyondWhatIsTaken(t *testing.T) {
	closed, _ := witness.Close(oct("a<=4000 b<=1"))
	wantErrBound(t, closed)
}
