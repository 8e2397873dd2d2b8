package witness_test

import (
	"slices"
	"strings"
	"testing"

	"witness/api"
	"witness/witness"
)

// wantFound wants a certificate, and that Check is OK with it.
func wantFound(t *testing.T, src string) {
	t.Helper()
	cert, e := witness.Analyze(src)
	if e != api.OK {
		t.Errorf("P13: Analyze(%.160q) = %.40q, %d, want OK", src, cert, e)
		return
	}
	if got, at := witness.Check(src, cert); got != api.OK || at != 0 {
		t.Errorf("P13: Check of what Analyze(%.160q) gives is %d, %d", src, got, at)
	}
}

func wantNotFound(t *testing.T, src string, want api.Errno) {
	t.Helper()
	if cert, e := witness.Analyze(src); cert != "" || e != want {
		t.Errorf("P13: Analyze(%.160q) = %.40q, %d, want %d", src, cert, e, want)
	}
}

func TestAnalyzeTheText(t *testing.T) {
	for _, src := range []string{
		"a", "a=1", "x", "a=01;", "a=1;}", "@*{", "?*{}", " ", "\x00", "a=1; ",
		strings.Repeat("a=1;", 21),
		strings.Repeat("@*{", 5) + strings.Repeat("}", 5),
		strings.Repeat("a=-b+49;", 20) + " ",
		strings.Repeat("a", 161),
		strings.Repeat("a=1;", 50),
		// That something would go wrong before is no matter.
		"!*;a", "!a<=-1;x",
	} {
		wantNotFound(t, src, api.ErrText)
	}
}

// The examples of the document.
func TestAnalyzeExamples(t *testing.T) {
	for _, src := range []string{
		"",
		"a=1;!a<=1;",
		"a=*;?a<=5{!a<=5;}{!-a<=-6;}",
		"@*{?a<=9{a=a+1;}{a=0;}}!a<=10;",
		"@a<=9{a=a+1;}!-a<=-10;",
		"@a<=9{a=a+1;b=b+1;}!a-b<=0;",
		"a=9;@-a<=-1{a=a-1;b=b+1;}!a+b<=9;",
	} {
		wantFound(t, src)
	}
	for _, src := range []string{"!a<=-1;", "@*{a=a+1;}", "a=*;b=*;a=a+1;"} {
		wantNotFound(t, src, api.ErrUnknown)
	}
}

func TestAnalyzeWithoutLoops(t *testing.T) {
	for _, c := range []struct{ found, none string }{
		// The beginning has the state with all variables 0, and no other.
		{"!a<=0;!-a<=0;!b-c<=0;!-c-d<=0;", "!-a-d<=-1;"},
		{"b=-a;!b<=0;", "b=-a+1;!b<=0;"},
		// The greatest and the least value.
		{"a=99;" + strings.Repeat("a=a+99;", 9) + "a=a+9;", "a=99;" + strings.Repeat("a=a+99;", 9) + "a=a+10;"},
		{"a=-99;" + strings.Repeat("a=a-99;", 9) + "a=a-9;", "a=-99;" + strings.Repeat("a=a-99;", 9) + "a=a-10;"},
		{"a=*;a=-a;", "a=*;a=-a+1;"},
		{"a=*;b=a;", "a=*;b=a-1;"},
		{"a=*;?a<=98{a=a+1;}{}", "a=*;?a<=98{}{a=a+1;}"},
		{"a=*;?-a<=98{a=a-1;}{a=-a;}", "a=*;?-a<=98{a=a-1;}{a=a-1;}"},
		{"b=*;?a-b<=-1{a=b-1;a=a+1;}{}", "b=*;?a-b<=0{a=b-1;}{}a=b;b=b+1;"},
		// What has nothing to do with a variable that is set stays.
		{"a=*;b=a;c=-b;d=c;b=*;!a+d<=0;!-a-d<=0;", "a=*;b=a;c=-b;d=c;d=*;!a+d<=0;"},
		{"a=*;b=a;a=a;!a-b<=0;", "a=*;b=a;a=*;!a-b<=0;"},
		{"a=*;b=-a;a=-a;!a-b<=0;!-a+b<=0;", "a=*;b=-a;b=-b;a=-a;!a-b<=0;"},
		// What comes by two ways.
		{"?*{a=5;}{a=7;}!a<=7;!-a<=-5;", "?*{a=5;}{a=7;}!a<=6;"},
		{"?*{a=5;}{a=7;}!-a<=-5;", "?*{a=5;}{a=7;}!-a<=-6;"},
		{"?*{a=1;b=2;}{a=8;b=9;}!b-a<=1;!a-b<=-1;", "?*{a=1;b=2;}{a=8;b=9;}!b-a<=0;"},
		{"?*{a=1;b=2;}{a=2;b=1;}!a+b<=3;!-a-b<=-3;", "?*{a=1;b=2;}{a=2;b=1;}!a-b<=0;"},
		{"?*{a=1;}{}!a<=1;", "?*{a=1;}{}!-a<=-1;"},
		{"?*{}{a=1;}!a<=1;", "?*{}{a=1;}!-a<=-1;"},
		{"?*{}{}!a<=0;", "?*{}{}!a<=-1;"},
		// Conditions cut, and whole numbers alone are values.
		{"a=*;?a<=5{!a<=5;}{!-a<=-6;}", "a=*;?a<=5{!a<=5;}{!-a<=-7;}"},
		{"a=*;b=*;?a+b<=3{?a-b<=0{!a<=1;}{}}{}", "a=*;b=*;?a+b<=4{?a-b<=0{!a<=1;}{}}{}"},
		{"a=*;b=a;?a+b<=1{?-a-b<=-1{!*;}{}}{}", "a=*;b=a;?a+b<=2{?-a-b<=-1{!*;}{}}{}"},
		// Where nothing comes nothing goes wrong.
		{"?a<=-1{!*;}{b=a;}!b<=0;", "?a<=0{!*;}{b=a;}!b<=0;"},
		{"?a<=0{}{a=a+99;!*;b=c;!*;}", "?a<=-1{}{a=a+99;!*;b=c;!*;}"},
		{"?a<=0{?a<=0{?a<=0{?a<=0{}{!*;}}{!*;}}{!*;}}{!*;}", "?a<=0{?a<=0{?a<=0{?a<=-1{}{!*;}}{!*;}}{!*;}}{!*;}"},
		{"b=*;a=b;?a-b<=0{}{a=b+99;a=a+99;!*;}", "b=*;a=b+99;"},
		// As a condition * may hold and may not.
		{"?*{a=1;}{a=-1;}!a<=1;!-a<=1;", "?*{!*;}{}"},
		{"?*{?*{a=1;}{}}{}!-a<=0;", "!*;"},
	} {
		wantFound(t, c.found)
		wantNotFound(t, c.none, api.ErrUnknown)
	}
}

// The greatest programs: 20 statements, and 160 bytes.
func TestAnalyzeGreatPrograms(t *testing.T) {
	wantFound(t, strings.Repeat("a=a+49;", 20))
	wantNotFound(t, strings.Repeat("a=a+50;", 20), api.ErrUnknown)
	wantFound(t, strings.Repeat("a=-b+49;", 20))
	wantFound(t, strings.Repeat("a=-b+49;", 19)+"!-a<=99;")
	wantNotFound(t, strings.Repeat("a=-b+49;", 19)+"!+a<=99;", api.ErrText)
	wantNotFound(t, strings.Repeat("a=-b+49;", 19)+"!a<=-49;", api.ErrUnknown)
	wantFound(t, strings.Repeat("?*{}{}", 20))
	wantFound(t, strings.Repeat("@*{}", 20))
}

// A program may be right without a certificate: that a is never 1 no octagon tells.
func TestAnalyzeWhereNoOctagonTells(t *testing.T) {
	src := "?*{a=2;}{}?a<=1{?-a<=-1{!*;}{}}{}"
	for _, input := range []int{0, 1} {
		wantRun(t, src, []int{input}, 2000, outcome{api.Halted, 5, [4]int{2 * input}})
	}
	wantNotFound(t, src, api.ErrUnknown)
}

func TestAnalyzeWithLoops(t *testing.T) {
	for _, c := range []struct{ found, none string }{
		{"@a<=9{a=a+1;}!a<=10;", "@a<=9{a=a+1;}!a<=9;"},
		{"@a<=9{a=a+1;}!-a<=-10;", "@a<=9{a=a+1;}!-a<=-11;"},
		{"@a<=9{a=a+3;}!a<=12;", "@a<=9{a=a+3;}!a<=11;"},
		{"@*{?a<=9{a=a+1;}{a=0;}}!a<=10;", "@*{?a<=9{a=a+1;}{a=0;}}!a<=9;"},
		{"a=9;@-a<=-1{a=a-1;b=b+1;}!a+b<=9;", "a=9;@-a<=-1{a=a-1;b=b+2;}!a+b<=9;"},
		{"@*{a=*;b=a;}!a-b<=0;", "@*{a=*;b=a;}!a+b<=0;"},
		// What comes first into a loop, and what comes again.
		{"a=5;@*{a=-a;}!a<=5;!-a<=5;", "a=5;@*{a=-a;}!-a<=4;"},
		{"@*{!a<=0;}", "@*{!a<=0;a=1;}"},
		{"@*{a=1;!a<=1;}!-a<=0;", "@*{a=1;}!-a<=-1;"},
		// A loop that is never left, or never gone into.
		{"@a<=0{}!*;", "@*{}!*;"},
		{"@a<=0{b=*;}!*;", "@a<=0{a=*;}!*;"},
		{"@a<=-1{!*;a=a+1;}", "@a<=-1{}!*;"},
		{"@a<=0{a=1;}@a<=0{!*;}", "@a<=0{a=*;}@a<=1{!*;}"},
		// Values that come up to the greatest one, or beyond.
		{"a=*;@b-a<=-1{b=b+1;}", "a=*;@b-a<=0{b=b+1;}"},
		{"a=*;@-b+a<=-1{b=b-1;}", "a=*;@-b+a<=0{b=b-1;}"},
		{"a=*;@b-a<=-1{b=b+1;}!a-b<=0;", "@*{a=a-1;}"},
		{"@*{?*{?a<=98{a=a+1;}{}}{?-a<=98{a=a-1;}{}}}!a<=99;", "@*{?*{a=a+1;}{a=a-1;}}"},
		// Loops within one another, and behind one another.
		{"@a<=9{a=a+1;b=0;@b<=9{b=b+1;c=0;@c<=9{c=c+1;d=0;@d<=9{d=d+1;}}}}!-a<=-10;!a+d<=20;", "@a<=9{a=a+1;b=0;@b<=9{b=b+1;c=0;@c<=9{c=c+1;d=0;@d<=9{d=d+1;}}}}!-d<=-11;"},
		{"@a<=9{a=a+1;}@-a<=-1{a=a-1;}!a<=0;!-a<=0;", "@a<=9{a=a+1;}@-a<=-1{a=a-2;}!-a<=0;"},
		{"?*{@a<=9{a=a+1;}}{@-a<=9{a=a-1;}}!a<=10;!-a<=10;", "?*{@a<=9{a=a+1;}}{@-a<=9{a=a-1;}}!-a<=0;"},
	} {
		wantFound(t, c.found)
		wantNotFound(t, c.none, api.ErrUnknown)
	}
}

// Small programs, told by their states alone. As far as these are in the box,
// every certificate has to claim what is grown: so where something goes wrong
// in that there is none, and where no way leads out of it, it is one.
func TestAnalyzeOfSmallPrograms(t *testing.T) {
	seen := tally{}
	for seed := uint32(1); seed <= 4000; seed++ {
		d := draws{seed: seed}
		src, all := d.drawProgram(1)
		loops := ""
		if strings.Contains(src, "@") {
			loops = " with @"
		}
		switch e, _ := judge(all, growStates(all, 2), 2); e {
		case api.OK:
			wantFound(t, src)
			seen["found"+loops]++
		case api.ErrAlarm:
			wantNotFound(t, src, api.ErrUnknown)
			seen["none"+loops]++
		}
		if t.Failed() {
			return
		}
	}
	seen.wantAll(t, "found", "none", "found with @", "none with @")
}

// Drawn programs, told by the calls for octagons. Without @ what is grown by
// these is the least that every certificate has to claim.
func TestAnalyzeOfDrawnPrograms(t *testing.T) {
	seen := tally{}
	for seed := uint32(1); seed <= 6000; seed++ {
		d := draws{seed: seed}
		src, all := d.drawProgram(1 + 98*d.below(2))
		grown, _ := judgeByCalls(src, all, growCalls(src, all))
		cert, e := witness.Analyze(src)
		text := "none"
		if e == api.OK {
			text = "found"
			wantFound(t, src)
			wantNoRunWrong(t, src, &d)
			lists, _ := witness.Decode(cert)
			if judged, at := judgeByCalls(src, all, lists); judged != api.OK {
				t.Errorf("P13: the calls for octagons say %d, %d of what Analyze(%q) gives", judged, at, src)
			}
		} else {
			wantNotFound(t, src, api.ErrUnknown)
		}
		loops := strings.Contains(src, "@")
		if (grown == api.OK && e != api.OK) || (!loops && grown != api.OK && e == api.OK) {
			t.Errorf("P13: Analyze(%q) answers %d, but Check of what is grown %d", src, e, grown)
		}
		if loops {
			text += " with @"
		}
		seen[text]++
		if t.Failed() {
			return
		}
	}
	seen.wantAll(t, "found", "none", "found with @", "none with @")
}

// drawStraight is a program of assignments and ? alone.
func (d *draws) drawStraight(most int) (string, []*node) {
	for {
		d.count = 0
		list := d.block(0)
		all := allNodes(list)
		for _, n := range all {
			n.number = d.below(2*most+1) - most
			switch n.kind {
			case '!':
				n.kind = '='
				n.signs = [api.Vars]int{}
				n.signs[d.below(4)] = d.below(3) - 1
			case '@':
				n.kind = '?'
				n.blocks = append(n.blocks, nil)
			}
		}
		src := blockText(list)
		if len(all) > 0 && len(all) < api.MaxStmts && len(src) <= api.MaxText-len("!-a-b<=-99;") {
			setWays(list, d.count)
			return src, all
		}
	}
}

// assertion is a statement that a form is no greater than n.
func assertion(form int, n int) string {
	signs := [api.Vars]int{}
	for v := range signs {
		one := state{}
		one[v] = 1
		signs[v] = formsAt(one)[form]
	}
	claimed := node{kind: '!', signs: signs, number: n}
	return claimed.text()
}

// Each bound at the end of a program without @ is shown, and none that is sharper.
func TestAnalyzeIsSharp(t *testing.T) {
	forms := [api.Bounds]int{}
	for seed := uint32(1); seed <= 1500; seed++ {
		d := draws{seed: seed}
		src, all := d.drawStraight(1 + 98*d.below(2))
		lists := growCalls(src, all)
		if e, _ := judgeByCalls(src, all, lists); e != api.OK {
			wantNotFound(t, src, api.ErrUnknown)
			continue
		}
		wantFound(t, src)
		for form, n := range lists[len(all)] {
			if n < -98 || n > 99 {
				continue
			}
			forms[form]++
			wantFound(t, src+assertion(form, n))
			wantNotFound(t, src+assertion(form, n-1), api.ErrUnknown)
		}
		if t.Failed() {
			return
		}
	}
	if slices.Min(forms[:]) < 100 {
		t.Errorf("some forms were seen seldom: %v", forms)
	}
}
