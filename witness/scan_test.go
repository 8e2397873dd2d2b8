package witness_test

import (
	"strings"
	"testing"

	"witness/api"
	"witness/witness"
)

func wantScan(t *testing.T, src string, points int, err api.Errno, at int) {
	t.Helper()
	n, e, place := witness.Scan(src)
	if n != points || e != err || place != at {
		t.Errorf("P3: Scan(%q) = %d, %d, %d, want %d, %d, %d", src, n, e, place, points, err, at)
	}
}

func TestScanCountsPoints(t *testing.T) {
	for _, c := range []struct {
		src    string
		points int
	}{
		{"", 1},
		{"a=1;@a<=9{a=a+1;}!a<=10;", 5},
		{"a=*;b=0;c=-1;d=b;a=-b;b=c+0;c=d-0;d=-a+99;a=-a-99;", 10},
		{"!*;!a<=0;!-b<=99;!c<=-1;!-d<=-99;", 6},
		{"!a+b<=0;!a-c<=1;!-a+d<=2;!-b-c<=-3;!d+a<=4;!c-b<=5;", 7},
		{"?*{}{}@*{}", 3},
		{"?a<=1{a=1;b=2;}{@*{?*{}{c=3;}}}d=4;", 8},
	} {
		wantScan(t, c.src, c.points, api.OK, 0)
	}
}

func TestScanTellsTheExamplesPlaces(t *testing.T) {
	for _, c := range []struct {
		src string
		at  int
	}{
		{"a=1", 3}, {"a=01;", 3}, {"a=b+a;", 4}, {"!a+a<=1;", 3}, {"a=-0;", 3},
	} {
		wantScan(t, c.src, 0, api.ErrText, c.at)
	}
}

func TestScanNumbers(t *testing.T) {
	for _, src := range []string{"a=0;", "a=9;", "a=10;", "a=99;", "a=-1;", "a=-99;", "a=b-0;", "!a<=0;", "!a<=99;", "!a<=-99;"} {
		wantScan(t, src, 2, api.OK, 0)
	}
	for _, c := range []struct {
		src string
		at  int
	}{
		{"a=100;", 4}, {"a=00;", 3}, {"a=-100;", 5}, {"a=-01;", 3}, {"a=b+100;", 6}, {"a=b+01;", 5}, {"a=b--1;", 4}, {"a=--1;", 3}, {"a=+1;", 2},
		{"!a<=100;", 6}, {"!a<=00;", 5}, {"!a<=-100;", 7}, {"!a<=-0;", 5}, {"!a<=+1;", 4}, {"!a<=1+1;", 5}, {"!-0<=1;", 2},
	} {
		wantScan(t, c.src, 0, api.ErrText, c.at)
	}
}

func TestScanFormsNameTwoVariables(t *testing.T) {
	for _, x := range "abcd" {
		for _, y := range "abcd" {
			for _, sign := range []string{"", "-"} {
				for _, second := range []string{"+", "-"} {
					src := "!" + sign + string(x) + second + string(y) + "<=1;"
					if x == y {
						wantScan(t, src, 0, api.ErrText, len("!"+sign)+2)
					} else {
						wantScan(t, src, 2, api.OK, 0)
					}
				}
			}
		}
	}
}

func TestScanTextLength(t *testing.T) {
	full := strings.Repeat("!a+b<=99;", 17) + "a=b+10;"
	if len(full) != 160 {
		t.Fatalf("the text has %d bytes", len(full))
	}
	wantScan(t, full, 19, api.OK, 0)
	longer := strings.Repeat("!a+b<=99;", 17) + "a=-b+10;"
	wantScan(t, longer, 0, api.ErrText, 0)
	// A beginning of a program that only a longer text could end.
	wantScan(t, strings.Repeat("!a+b<=99;", 17)+"!a+b<=9", 0, api.ErrText, 160)
	wantScan(t, strings.Repeat("!a+b<=99;", 17)+"!a+b<=x", 0, api.ErrText, 159)
	wantScan(t, strings.Repeat("a", 161), 0, api.ErrText, 0)
	wantScan(t, strings.Repeat("a=1;", 1000), 0, api.ErrText, 0)
}

func TestScanCountsInnerStatements(t *testing.T) {
	wantScan(t, strings.Repeat("a=1;", 20), 21, api.OK, 0)
	wantScan(t, strings.Repeat("a=1;", 21), 0, api.ErrText, 80)
	wantScan(t, strings.Repeat("a=1;", 20)+"}", 0, api.ErrText, 80)
	inner := "?*{" + strings.Repeat("a=1;", 9) + "}{" + strings.Repeat("a=1;", 10) + "}"
	wantScan(t, inner, 21, api.OK, 0)
	wantScan(t, inner+"!", 0, api.ErrText, len(inner))
	crowded := "?*{" + strings.Repeat("a=1;", 9) + "}{" + strings.Repeat("a=1;", 11) + "}"
	wantScan(t, crowded, 0, api.ErrText, len(inner)-1)
	wantScan(t, strings.Repeat("a=1;", 19)+"?*{}{}", 21, api.OK, 0)
	wantScan(t, strings.Repeat("a=1;", 19)+"?*{", 0, api.ErrText, 79)
	wantScan(t, strings.Repeat("a=1;", 19)+"?*{b", 0, api.ErrText, 79)
}

func TestScanCountsBlocksWithinOneAnother(t *testing.T) {
	wantScan(t, "@*{?*{}{@*{?*{}{a=1;}}}}", 6, api.OK, 0)
	wantScan(t, "@*{?*{}{@*{?*{}{@*{}}}}}", 0, api.ErrText, 16)
	wantScan(t, "@*{?*{}{@*{?*{?", 0, api.ErrText, 14)
	wantScan(t, "@*{?*{}{@*{?*{!", 0, api.ErrText, 15)
	// Blocks that lie beside one another do not count.
	wantScan(t, "@*{@*{@*{@*{}@*{}}@*{}}@*{@*{@*{}}}}", 10, api.OK, 0)
}

func TestScanStrangeBytes(t *testing.T) {
	for _, c := range []struct {
		src string
		at  int
	}{
		{"\x00", 0}, {"a=1;\x00", 4}, {"a\x00", 1}, {"@*{\x00}", 3}, {"@*\x00{}", 2}, {"\xff\xfe", 0}, {"a=1;\xc3\xa4", 4}, {"a=１;", 2},
		{"A=1;", 0}, {"e=1;", 0}, {"`=1;", 0}, {"!e<=1;", 1}, {"a=e;", 2}, {"a=:;", 2}, {"a=/;", 2}, {"}", 0}, {"{}", 0}, {";", 0}, {"a=1;;", 4}, {"a = 1;", 1},
	} {
		wantScan(t, c.src, 0, api.ErrText, c.at)
	}
}
