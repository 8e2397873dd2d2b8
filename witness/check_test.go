package witness_test

import (
	"slices"
	"strings"
	"testing"

	"witness/api"
	"witness/witness"
)

func wantCheck(t *testing.T, src string, lists [][]int, want api.Errno, at int) {
	t.Helper()
	cert, e := witness.Encode(lists)
	if e != api.OK {
		t.Fatalf("P11: Encode of %.200s answers %d", tellAll(lists), e)
	}
	got, place := witness.Check(src, cert)
	if got != want || place != at {
		t.Errorf("P12: Check(%.160q) with %.400s is %d, %d, want %d, %d", src, tellAll(lists), got, place, want, at)
	}
}

func wantCheckBytes(t *testing.T, src string, cert string, want api.Errno, at int) {
	t.Helper()
	if got, place := witness.Check(src, cert); got != want || place != at {
		t.Errorf("P12: Check(%.40q, %.40q) is %d, %d, want %d, %d", src, cert, got, place, want, at)
	}
}

func TestCheckTheText(t *testing.T) {
	for _, cert := range []string{"", "x", bytesOf(1, 0), bytesOf(2, 1, 0, 1, 0)} {
		for _, c := range []struct {
			src string
			at  int
		}{
			{"a=1", 3},
			{"x", 0},
			{"a=01;", 3},
			{"@*{", 3},
			{"a=1;@*{a=1;}}", 12},
			{strings.Repeat("a=1;", 21), 80},
			{strings.Repeat("a", 161), 0},
			{strings.Repeat("a=1;", 50), 0},
		} {
			wantCheckBytes(t, c.src, cert, api.ErrText, c.at)
		}
	}
}

func TestCheckTheBytes(t *testing.T) {
	wantCheckBytes(t, "a=1;", "", api.ErrCert, 0)
	wantCheckBytes(t, "", "", api.ErrCert, 0)
	good := bytesOf(2, 1, 0, 1, 0)
	wantCheckBytes(t, "a=1;", good, api.OK, 0)
	for n := range good {
		wantCheckBytes(t, "a=1;", good[:n], api.ErrCert, 0)
	}
	wantCheckBytes(t, "a=1;", good+"\x00", api.ErrCert, 0)
	wantCheckBytes(t, "a=1;", bytesOf(2, 1, 0, 1, 1, 32, 0, 0), api.ErrCert, 0)
	wantCheckBytes(t, "a=1;", bytesOf(2, 1, 0, 1, 1, 2, 31, 65), api.ErrCert, 0)
	wantCheckBytes(t, "a=1;", bytesOf(2, 0, 1, 2, 2, 0, 0, 2, 0, 0), api.ErrCert, 0)
	// As many points as the program has, whatever is told of them.
	for statements := range 21 {
		src := strings.Repeat("!*;", statements)
		for points := 1; points <= 21; points++ {
			for _, o := range [][]int{nil, oct("a<=-1"), oct("")} {
				lists := slices.Repeat([][]int{o}, points)
				want := api.ErrCert
				if points == statements+1 {
					want = api.ErrEntry
				}
				if want == api.ErrEntry && o != nil && o[0] == api.NoBound {
					want = api.ErrAlarm
				}
				if want == api.ErrAlarm && statements == 0 {
					want = api.OK
				}
				wantCheck(t, src, lists, want, 0)
			}
		}
	}
}

func TestCheckTheBeginning(t *testing.T) {
	for form := range 32 {
		for _, n := range []int{-4000, -1, 0, 1, 4000} {
			o := oct("")
			o[form] = n
			want := api.OK
			if n < 0 {
				want = api.ErrEntry
			}
			wantCheck(t, "", [][]int{o}, want, 0)
			wantCheck(t, "a=1;", [][]int{o, oct("")}, want, 0)
			// That it would be an alarm or a wrong way too is no matter.
			if n < 0 {
				wantCheck(t, "!*;", [][]int{o, nil}, want, 0)
				wantCheck(t, "a=1;", [][]int{o, nil}, want, 0)
			}
		}
	}
	wantCheck(t, "", claims("nil"), api.ErrEntry, 0)
	wantCheck(t, "a=1;", claims("nil", ""), api.ErrEntry, 0)
	wantCheck(t, "a=1;", claims("nil", "nil"), api.ErrEntry, 0)
	wantCheck(t, "", claims("a<=1 -a<=-2"), api.ErrEntry, 0)
	wantCheck(t, "", claims("a<=0 -a<=0 b<=0 -b<=0 c<=0 -c<=0 d<=0 -d<=0"), api.OK, 0)
	wantCheck(t, "", [][]int{make([]int, 32)}, api.OK, 0)
	// The beginning is at the point 0, and there alone.
	wantCheck(t, "a=1;", claims("", "-a<=-1"), api.OK, 0)
	wantCheck(t, "@*{a=0;}", claims("a<=0 -a<=0", "", "a<=0 -a<=0"), api.OK, 0)
}

func TestCheckOfStatements(t *testing.T) {
	for _, c := range []struct {
		src  string
		told []string
		want api.Errno
		at   int
	}{
		{"a=1;!a<=1;", []string{"", "a<=1 -a<=-1", ""}, api.OK, 0},
		{"a=1;!a<=1;", []string{"", "a<=1", "a<=1"}, api.OK, 0},
		{"a=1;!a<=1;", []string{"", "a<=1", "a<=0"}, api.ErrEdge, 1},
		{"a=1;!a<=1;", []string{"", "a<=2", "a<=0"}, api.ErrAlarm, 1},
		{"a=1;!a<=1;", []string{"", "a<=0", "a<=0"}, api.ErrEdge, 0},
		{"a=1;!a<=1;", []string{"", "nil", "nil"}, api.ErrEdge, 0},
		{"a=1;!a<=1;", []string{"", "", ""}, api.ErrAlarm, 1},
		// The alarm of a point is told before its ways, and a point before the next one.
		{"a=a+1;", []string{"", "nil"}, api.ErrAlarm, 0},
		{"a=a+1;", []string{"a<=998 -a<=1000", "nil"}, api.ErrEdge, 0},
		{"a=a+1;", []string{"a<=999 -a<=1000", ""}, api.ErrAlarm, 0},
		{"a=a+1;", []string{"a<=998 -a<=1001", ""}, api.ErrAlarm, 0},
		{"a=a+1;", []string{"a<=998 -a<=1000", "a<=999 -a<=999"}, api.OK, 0},
		{"a=a+1;", []string{"a<=998 -a<=1000", "a<=998 -a<=999"}, api.ErrEdge, 0},
		{"a=b;!*;", []string{"b<=0 -b<=0", "b<=0", ""}, api.ErrAlarm, 1},
		{"a=b;!*;", []string{"b<=0 -b<=0", "b<=-1", ""}, api.ErrEdge, 0},
		{"a=b;!*;", []string{"b<=0 -b<=1000", "b<=-1", ""}, api.ErrAlarm, 0},
		// Any value.
		{"a=*;!a<=99;", []string{"", "a<=999 -a<=999", ""}, api.ErrAlarm, 1},
		{"a=*;a=-a;", []string{"", "a<=999 -a<=999", "a<=999"}, api.OK, 0},
		{"a=*;a=-a;", []string{"", "a<=998 -a<=999", "a<=999"}, api.ErrEdge, 0},
		{"a=*;a=-a;", []string{"", "a<=999 -a<=999", "a<=998"}, api.ErrEdge, 1},
		// Both ways of a ?, and where they lead.
		{"?a<=0{b=1;}{b=2;}", []string{"", "a<=0", "-a<=-1", "b<=2 -b<=-1"}, api.OK, 0},
		{"?a<=0{b=1;}{b=2;}", []string{"", "a<=-1", "-a<=-1", "b<=2"}, api.ErrEdge, 0},
		{"?a<=0{b=1;}{b=2;}", []string{"", "a<=0", "-a<=-2", "b<=2"}, api.ErrEdge, 0},
		{"?a<=0{b=1;}{b=2;}", []string{"", "a<=0", "-a<=-1", "b<=0"}, api.ErrEdge, 1},
		{"?a<=0{b=1;}{b=2;}", []string{"", "a<=0", "-a<=-1", "b<=1"}, api.ErrEdge, 2},
		{"?a<=0{b=1;}{b=2;}", []string{"a<=0", "a<=0", "nil", "b<=1"}, api.OK, 0},
		{"?a<=0{b=1;}{b=2;}", []string{"a<=1", "a<=0", "nil", "b<=1"}, api.ErrEdge, 0},
		{"?*{b=1;}{b=2;}", []string{"a<=0", "a<=0", "nil", "b<=1"}, api.ErrEdge, 0},
		{"?*{b=1;}{b=2;}", []string{"a<=0", "nil", "a<=0", "b<=2"}, api.ErrEdge, 0},
		{"?*{b=1;}{b=2;}", []string{"a<=0", "a<=0", "a<=0", "b<=2"}, api.OK, 0},
		{"?a<=0{}{}", []string{"", ""}, api.OK, 0},
		{"?a<=0{}{}", []string{"", "a<=0"}, api.ErrEdge, 0},
		{"?a<=0{}{}", []string{"", "-a<=-1"}, api.ErrEdge, 0},
		{"?a<=0{}{}", []string{"a<=5", "a<=5"}, api.OK, 0},
		{"?a<=0{}{a=0;}!a<=0;", []string{"", "", "a<=0", ""}, api.OK, 0},
		{"?a<=0{}{a=0;}!a<=0;", []string{"", "a<=0", "a<=0", ""}, api.ErrEdge, 0},
		{"?a<=0{}{a=1;}!a<=0;", []string{"", "", "a<=0", ""}, api.ErrEdge, 1},
		// The way back of a @, and the one out of it.
		{"@a<=9{a=a+1;}!-a<=-10;", []string{"a<=10 -a<=0", "a<=9 -a<=0", "-a<=-10", ""}, api.OK, 0},
		{"@a<=9{a=a+1;}!-a<=-10;", []string{"a<=9 -a<=0", "a<=9 -a<=0", "-a<=-10", ""}, api.ErrEdge, 1},
		{"@a<=9{a=a+1;}!-a<=-10;", []string{"a<=10 -a<=0", "a<=8 -a<=0", "-a<=-10", ""}, api.ErrEdge, 0},
		{"@a<=9{a=a+1;}!-a<=-10;", []string{"a<=10 -a<=0", "a<=9 -a<=0", "-a<=-11", ""}, api.ErrEdge, 0},
		{"@a<=9{a=a+1;}!-a<=-10;", []string{"a<=10 -a<=0", "a<=9 -a<=0", "-a<=-9", ""}, api.ErrAlarm, 2},
		{"@a<=9{a=a+1;}!-a<=-10;", []string{"a<=10", "a<=9", "-a<=-10", ""}, api.ErrAlarm, 1},
		{"@a<=9{a=a+1;}!-a<=-10;", []string{"a<=9 -a<=0", "a<=9 -a<=0", "nil", ""}, api.ErrEdge, 1},
		{"@a<=9{}!a<=-1;", []string{"a<=9", "nil", "nil"}, api.OK, 0},
		{"@a<=9{}!a<=-1;", []string{"a<=10", "nil", "nil"}, api.ErrEdge, 0},
		{"@a<=9{}!a<=-1;", []string{"", "-a<=-10", ""}, api.ErrAlarm, 1},
		{"@*{}", []string{"a<=9", "a<=9"}, api.OK, 0},
		{"@*{}", []string{"a<=9", "a<=8"}, api.ErrEdge, 0},
		{"@*{a=a+1;}", []string{"a<=998 -a<=0", "a<=998 -a<=0", ""}, api.ErrEdge, 1},
		{"@*{a=a+1;}", []string{"a<=999 -a<=0", "a<=999 -a<=0", ""}, api.ErrAlarm, 1},
		{"@*{?a<=9{a=a+1;}{a=0;}}!a<=10;", []string{"a<=10 -a<=0", "a<=10 -a<=0", "a<=9 -a<=0", "a<=10 -a<=-10", "a<=10 -a<=0", ""}, api.OK, 0},
		{"@a<=9{a=a+1;b=b+1;}!a-b<=0;", []string{"a-b<=0 -a+b<=0 a<=10 -a<=0", "a-b<=0 -a+b<=0 a<=9 -a<=0", "a-b<=1 -a+b<=-1 a<=10 -a<=0", "a-b<=0", ""}, api.OK, 0},
		{"@a<=9{a=a+1;b=b+1;}!a-b<=0;", []string{"a-b<=0 -a+b<=0 a<=10 -a<=0", "a-b<=0 -a+b<=0 a<=9 -a<=0", "a-b<=1 -a+b<=0 a<=10 -a<=0", "a-b<=0", ""}, api.ErrEdge, 2},
	} {
		wantCheck(t, c.src, claims(c.told...), c.want, c.at)
	}
}

// Where nothing comes, or an octagon without states is told, nothing goes wrong and nothing goes on.
func TestCheckWhereNothingComes(t *testing.T) {
	for _, none := range []string{"nil", "a<=1 -a<=-2", "a+b<=1 -a-b<=-1 a-b<=0 -a+b<=0"} {
		wantCheck(t, "?a<=0{}{!*;a=a+99;}", claims("a<=0", none, none, "a<=0"), api.OK, 0)
		wantCheck(t, "?a<=0{}{!*;a=a+99;}", claims("a<=0", none, none, none), api.ErrEdge, 0)
		wantCheck(t, "?a<=0{}{!*;a=a+99;}", claims("a<=1", none, none, "a<=0"), api.ErrEdge, 0)
		wantCheck(t, "a=1;", claims("", none), api.ErrEdge, 0)
		wantCheck(t, "", claims(none), api.ErrEntry, 0)
		// A point to which nothing comes may be followed by one to which something comes.
		wantCheck(t, "?a<=0{}{!*;a=a+99;}", claims("a<=0", none, "b<=0", "a<=0"), api.ErrAlarm, 2)
		wantCheck(t, "?a<=0{}{!*;a=1;}", claims("a<=0", none, "b<=0", "a<=0"), api.ErrEdge, 2)
		wantCheck(t, "?a<=0{}{!*;a=0;}", claims("a<=0", none, "b<=0", "a<=0"), api.OK, 0)
		wantCheck(t, "!a<=0;@a<=0{}b=a;", claims("a<=0", "a<=0", none, none), api.OK, 0)
		wantCheck(t, "!a<=0;@a<=0{}b=a;", claims("a<=0", "a<=0", none, "a<=-1"), api.OK, 0)
	}
}

// What is told need not be sharp: what follows from it counts too, on either side.
func TestCheckOfBoundsThatFollow(t *testing.T) {
	for _, c := range []struct {
		src  string
		told []string
		want api.Errno
		at   int
	}{
		{"!a+b<=7;", []string{"a<=3 b<=4", ""}, api.OK, 0},
		{"!a+b<=6;", []string{"a<=3 b<=4", ""}, api.ErrAlarm, 0},
		{"!a<=1;", []string{"a+b<=3 a-b<=0", ""}, api.OK, 0},
		{"!a<=1;", []string{"a+b<=3 a-b<=1", ""}, api.ErrAlarm, 0},
		{"c=0;", []string{"a<=3 b<=4", "a+b<=7"}, api.OK, 0},
		{"c=0;", []string{"a<=3 b<=4", "a+b<=6"}, api.ErrEdge, 0},
		{"c=0;", []string{"a+b<=3 a-b<=0", "a<=1"}, api.OK, 0},
		{"c=0;", []string{"a<=3 b<=4", "a<=3 b<=4 a+b<=4000"}, api.OK, 0},
		{"c=0;", []string{"a<=1", "c<=0 a+c<=1"}, api.OK, 0},
		{"c=0;", []string{"a<=1", "-c<=0 a+c<=0"}, api.ErrEdge, 0},
		// Greater numbers than a certificate can tell.
		{"c=0;", []string{"a<=4000 b<=4000", "a<=4000 b<=4000"}, api.OK, 0},
		{"c=0;", []string{"a<=4000 b<=4000", "a+b<=4000"}, api.ErrEdge, 0},
		{"c=0;", []string{"a<=4000 b<=4000", "a<=4000 b<=3999"}, api.ErrEdge, 0},
		{"c=0;", []string{"a<=4000 -a+b<=4000", "-a+b<=4000 a<=4000"}, api.OK, 0},
		{"c=0;", []string{"a<=4000 -a+b<=4000", "b<=4000"}, api.ErrEdge, 0},
		{"d=0;", []string{"a<=4000 -a+b<=4000 -b+c<=4000", "a<=4000 -a+b<=4000 -b+c<=4000"}, api.OK, 0},
		{"@*{c=0;}", []string{"a<=4000 b<=4000", "a<=4000 b<=4000", "a<=4000 b<=4000"}, api.OK, 0},
	} {
		wantCheck(t, c.src, claims(c.told...), c.want, c.at)
	}
}

// The greatest programs: 20 statements, and one of 160 bytes.
func TestCheckOfGreatPrograms(t *testing.T) {
	src := strings.Repeat("a=a+49;", 20)
	lists := [][]int{}
	for i := range 21 {
		o := oct("")
		o[0], o[1] = 49*i, -49*i
		lists = append(lists, o)
	}
	wantCheck(t, src, lists, api.OK, 0)
	lists[20] = nil
	wantCheck(t, src, lists, api.ErrEdge, 19)
	lists[19] = oct("")
	wantCheck(t, src, lists, api.ErrAlarm, 19)
	lists[7] = oct("")
	wantCheck(t, src, lists, api.ErrAlarm, 7)
	lists[7] = oct("a<=343 -a<=-344")
	wantCheck(t, src, lists, api.ErrEdge, 6)
	long := strings.Repeat("a=-b+49;", 20)
	lists = slices.Repeat([][]int{oct("b<=0 -b<=950")}, 21)
	wantCheck(t, long, lists, api.OK, 0)
	wantCheck(t, long+" ", lists, api.ErrText, 0)
	lists[13] = oct("b<=0 -b<=951")
	wantCheck(t, long, lists, api.ErrAlarm, 13)
}
