package witness_test

import (
	"slices"
	"strings"
	"testing"

	"witness/api"
	"witness/witness"
)

var oddNumbers = []int{-1 << 63, -4001, -1, 0, 1, 2, 20, 21, 2000, 2001, 1<<63 - 1}

func oddTexts() []string {
	list := []string{"", "\x00", "\xff", "a", "a=1", "a=1;", "!*;", "@*{}", "?*{}{}", "@a<=0{}", "@*{a=a+99;}", strings.Repeat("@*{", 54), strings.Repeat("{", 1000), strings.Repeat("a=1;", 20), strings.Repeat("?", 1<<20)}
	for i := 0; i < 256; i++ {
		list = append(list, string([]byte{byte(i)}), "a="+string([]byte{byte(i)}), "!"+string([]byte{byte(i)}), "@*{"+string([]byte{byte(i)}))
	}
	return list
}

func TestCallsEndAndErrorsStandAlone(t *testing.T) {
	for _, src := range oddTexts() {
		n, scanned, _ := witness.Scan(src)
		if (scanned != api.OK) != (n == 0) {
			t.Errorf("P1: Scan(%q) = %d, %d", src, n, scanned)
		}
		for _, p := range oddNumbers {
			for _, way := range oddNumbers {
				point, e := witness.Next(src, p, way)
				if e != api.OK && point != 0 {
					t.Errorf("P1: Next(%q, %d, %d) = %d, %d", src, p, way, point, e)
				}
				if (e == api.ErrText) != (scanned == api.ErrText) {
					t.Errorf("P1: Next(%q, %d, %d) answers %d, Scan %d", src, p, way, e, scanned)
				}
			}
			s, point, v, e := witness.Run(src, oddNumbers, p)
			if e != scanned {
				t.Errorf("P1: Run(%q) answers %d, Scan %d", src, e, scanned)
			}
			if e != api.OK && (s != 0 || point != 0 || v != nil) {
				t.Errorf("P1: Run(%q) = %d, %d, %v, %d", src, s, point, v, e)
			}
		}
	}
}

func TestRunWritesIntoNothing(t *testing.T) {
	room := []int{1, 5, 0, 1, 77, 78, 79, 80}
	before := slices.Clone(room)
	src := "@*{a=*;}b=*;c=*;d=*;"
	for n := 0; n <= len(room); n++ {
		witness.Run(src, room[:n], 100)
		if !slices.Equal(room, before) {
			t.Fatalf("P2: Run wrote into its inputs: %v", room)
		}
	}
	// What stands in the spare room is no input.
	wantRun(t, "a=*;b=*;", room[:1], 9, outcome{api.Halted, 2, [4]int{1, 0, 0, 0}})
}

func TestRunAnswersFreshLists(t *testing.T) {
	src := "a=*;b=*;c=3;d=4;"
	inputs := []int{1, 2}
	_, _, first, _ := witness.Run(src, inputs, 9)
	_, _, second, _ := witness.Run(src, inputs, 9)
	spare := first[:cap(first)]
	for i := range spare {
		spare[i] = -55
	}
	if !slices.Equal(second, []int{1, 2, 3, 4}) || !slices.Equal(inputs, []int{1, 2}) {
		t.Errorf("P2: an answer shares its list: %v, %v", second, inputs)
	}
	wantRun(t, src, inputs, 9, outcome{api.Halted, 4, [4]int{1, 2, 3, 4}})
}

func TestAnswersHangOnTheArgumentsAlone(t *testing.T) {
	for i := 0; i < 3; i++ {
		wantScan(t, "a=1;@*{}", 3, api.OK, 0)
		wantScan(t, "a=1;@*{", 0, api.ErrText, 7)
		wantNext(t, "a=1;@*{}", 1, 0, 1, api.OK)
		wantNext(t, "a=1;@*{", 1, 0, 0, api.ErrText)
		wantRun(t, "a=*;b=b+1;", []int{6}, 9, outcome{api.Halted, 2, [4]int{6, 1, 0, 0}})
		wantRun(t, "a=*;b=b+1;", nil, 9, outcome{api.Halted, 2, [4]int{0, 1, 0, 0}})
	}
}
