package witness_test

import (
	"slices"
	"strings"
	"testing"

	"witness/api"
	"witness/witness"
)

type outcome struct {
	status, point int
	values        [api.Vars]int
}

func wantRun(t *testing.T, src string, inputs []int, steps int, want outcome) {
	t.Helper()
	s, p, v, e := witness.Run(src, inputs, steps)
	if e != api.OK || s != want.status || p != want.point || !slices.Equal(v, want.values[:]) {
		shown := inputs[:min(len(inputs), 30)]
		t.Errorf("P5: Run(%q, %d inputs: %v, %d) = %d, %d, %v, %d, want %v", src, len(inputs), shown, steps, s, p, v, e, want)
	}
}

func TestRunExamples(t *testing.T) {
	wantRun(t, "a=1;@a<=9{a=a+1;}!a<=10;", nil, 100, outcome{api.Halted, 4, [4]int{10, 0, 0, 0}})
	wantRun(t, "a=*;!a<=5;", []int{7}, 100, outcome{api.Failed, 1, [4]int{7, 0, 0, 0}})
	wantRun(t, "@a<=0{b=b+99;}", nil, 100, outcome{api.Overflow, 1, [4]int{0, 990, 0, 0}})
	wantRun(t, "@a<=0{b=b+99;}", nil, 3, outcome{api.Running, 1, [4]int{0, 99, 0, 0}})
}

func TestRunValues(t *testing.T) {
	wantRun(t, "a=7;b=-7;c=a;d=-a;", nil, 4, outcome{api.Halted, 4, [4]int{7, -7, 7, -7}})
	wantRun(t, "a=7;b=a+3;c=-a+3;d=-a-3;a=a-9;", nil, 5, outcome{api.Halted, 5, [4]int{-2, 10, -4, -10}})
	wantRun(t, "d=99;c=d+99;b=-c-99;a=b-0;", nil, 4, outcome{api.Halted, 4, [4]int{-297, -297, 198, 99}})
}

func TestRunConditions(t *testing.T) {
	for _, c := range []struct {
		form  string
		comes string // what the form comes to at a = 5, b = 3, c = -2, d = 0
		below string
	}{
		{"a", "5", "4"}, {"-a", "-5", "-6"}, {"c", "-2", "-3"}, {"-c", "2", "1"}, {"d", "0", "-1"}, {"a+b", "8", "7"}, {"a-b", "2", "1"}, {"-a+b", "-2", "-3"}, {"-a-b", "-8", "-9"}, {"b-a", "-2", "-3"}, {"c+d", "-2", "-3"}, {"-c-b", "-1", "-2"},
	} {
		begin := "a=5;b=3;c=-2;"
		wantRun(t, begin+"!"+c.form+"<="+c.comes+";", nil, 9, outcome{api.Halted, 4, [4]int{5, 3, -2, 0}})
		wantRun(t, begin+"!"+c.form+"<="+c.below+";", nil, 9, outcome{api.Failed, 3, [4]int{5, 3, -2, 0}})
		wantRun(t, begin+"?"+c.form+"<="+c.comes+"{d=1;}{d=2;}", nil, 9, outcome{api.Halted, 6, [4]int{5, 3, -2, 1}})
		wantRun(t, begin+"?"+c.form+"<="+c.below+"{d=1;}{d=2;}", nil, 9, outcome{api.Halted, 6, [4]int{5, 3, -2, 2}})
	}
}

func TestRunInputs(t *testing.T) {
	wantRun(t, "a=*;b=*;c=*;d=*;", []int{999, 1000, -999, -1000}, 9, outcome{api.Halted, 4, [4]int{999, 999, -999, -999}})
	wantRun(t, "a=*;b=*;c=*;d=*;", []int{1<<63 - 1, -1 << 63, 5}, 9, outcome{api.Halted, 4, [4]int{999, -999, 5, 0}})
	wantRun(t, "!*;a=*;?*{b=1;}{b=2;}@*{c=c+1;}d=*;", []int{-1, 4, 0, 1000000, 1, 0, 6, 7}, 99, outcome{api.Halted, 8, [4]int{4, 2, 2, 6}})
	wantRun(t, "!*;", []int{0, 1}, 9, outcome{api.Failed, 0, [4]int{}})
	wantRun(t, "?*{a=1;}{a=2;}", []int{}, 9, outcome{api.Halted, 3, [4]int{2, 0, 0, 0}})
	// A condition that is no * takes no input.
	wantRun(t, "!a<=0;a=*;", []int{3, 4}, 9, outcome{api.Halted, 2, [4]int{3, 0, 0, 0}})
}

func TestRunOverflow(t *testing.T) {
	wantRun(t, "a=*;a=a+1;", []int{998}, 9, outcome{api.Halted, 2, [4]int{999, 0, 0, 0}})
	wantRun(t, "a=*;b=a+1;", []int{999}, 9, outcome{api.Overflow, 1, [4]int{999, 0, 0, 0}})
	wantRun(t, "a=*;b=1;b=a-1;", []int{-999}, 9, outcome{api.Overflow, 2, [4]int{-999, 1, 0, 0}})
	wantRun(t, "a=*;a=a-1;", []int{-998}, 9, outcome{api.Halted, 2, [4]int{-999, 0, 0, 0}})
	wantRun(t, "a=*;b=-a;c=-a+1;", []int{-999}, 9, outcome{api.Overflow, 2, [4]int{-999, 999, 0, 0}})
	// Only values are bounded: a form may come to more.
	wantRun(t, "a=*;b=*;!a+b<=99;", []int{999, 999}, 9, outcome{api.Failed, 2, [4]int{999, 999, 0, 0}})
}

func TestRunSteps(t *testing.T) {
	wantRun(t, "", nil, 0, outcome{api.Halted, 0, [4]int{}})
	wantRun(t, "", nil, -1<<63, outcome{api.Halted, 0, [4]int{}})
	wantRun(t, "a=1;", nil, 0, outcome{api.Running, 0, [4]int{}})
	wantRun(t, "a=1;", nil, -1, outcome{api.Running, 0, [4]int{}})
	wantRun(t, "a=1;", nil, 1, outcome{api.Halted, 1, [4]int{1, 0, 0, 0}})
	wantRun(t, "!*;", nil, 0, outcome{api.Running, 0, [4]int{}})
	wantRun(t, "a=1;b=1;", nil, 1, outcome{api.Running, 1, [4]int{1, 0, 0, 0}})
	// Three steps a turn; 666 turns and two steps make 2000.
	counting := "@*{a=a+1;?a<=98{}{}}"
	inputs := make([]int, 5000)
	for i := range inputs {
		inputs[i] = 1
	}
	wantRun(t, counting, inputs, 1999, outcome{api.Running, 1, [4]int{666, 0, 0, 0}})
	wantRun(t, counting, inputs, 2000, outcome{api.Running, 2, [4]int{667, 0, 0, 0}})
	wantRun(t, counting, inputs, 2001, outcome{api.Running, 2, [4]int{667, 0, 0, 0}})
	wantRun(t, counting, inputs, 1<<63-1, outcome{api.Running, 2, [4]int{667, 0, 0, 0}})
	// The last of 2000 steps may be the one to the end.
	wantRun(t, counting, inputs[:666], 1999, outcome{api.Halted, 3, [4]int{666, 0, 0, 0}})
	wantRun(t, "b=1;"+counting, inputs[:666], 2000, outcome{api.Halted, 4, [4]int{666, 1, 0, 0}})
	wantRun(t, "b=1;c=1;"+counting, inputs[:666], 2001, outcome{api.Running, 2, [4]int{666, 1, 1, 0}})
}

func TestRunOfNoProgram(t *testing.T) {
	long := strings.Repeat("!a+b<=99;", 17) + "a=-b+10;"
	for _, src := range []string{"a=1", "a=-0;", "\x00", long} {
		s, p, v, e := witness.Run(src, []int{1}, 10)
		if s != 0 || p != 0 || v != nil || e != api.ErrText {
			t.Errorf("P5: Run(%q) = %d, %d, %v, %d", src, s, p, v, e)
		}
	}
}
