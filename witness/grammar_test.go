package witness_test

import (
	"regexp"
	"strings"
	"testing"

	"witness/api"
	"witness/witness"
)

// The grammar once more, by other means: statements are folded into one letter
// each, S to W by how many blocks lie within one another in them.
const (
	numberRule   = `(?:0|[1-9][0-9]?)`
	positiveRule = `[1-9][0-9]?`
)

var (
	conditionRule = `(?:\*|` + formRule() + `<=(?:` + numberRule + `|-` + positiveRule + `))`
	plainFold     = regexp.MustCompile(`[a-d]=(?:\*|` + numberRule + `|-` + positiveRule + `|-?[a-d](?:[+-]` + numberRule + `)?);|!` + conditionRule + `;`)
	blockFold     = regexp.MustCompile(`(?:@` + conditionRule + `|\?` + conditionRule + `\{[S-V]*\})\{[S-V]*\}`)
	allFolded     = regexp.MustCompile(`^[S-W]*$`)
)

func formRule() string {
	return `-?(?:a(?:[+-][bcd])?|b(?:[+-][acd])?|c(?:[+-][abd])?|d(?:[+-][abc])?)`
}

func isProgram(src string) bool {
	if strings.ContainsAny(src, "STUVW") {
		return false
	}
	src = plainFold.ReplaceAllString(src, "S")
	for m := blockFold.FindStringIndex(src); m != nil; m = blockFold.FindStringIndex(src) {
		top := byte('S')
		for i := m[0]; i < m[1]; i++ {
			if src[i] >= 'S' && src[i] < 'W' && src[i]+1 > top {
				top = src[i] + 1
			}
		}
		if top == 'S' {
			top = 'T'
		}
		src = src[:m[0]] + strings.Repeat("S", statementsIn(src[m[0]:m[1]])) + string(top) + src[m[1]:]
	}
	return allFolded.MatchString(src) && len(src) <= api.MaxStmts
}

// statementsIn counts the letters, so that folding a block does not lose the statements in it.
func statementsIn(folded string) int {
	n := 0
	for _, c := range folded {
		if c >= 'S' && c <= 'W' {
			n++
		}
	}
	return n
}

// tails end a statement, wherever it was left; the closing of blocks comes behind them.
var tails = makeTails()

func makeTails() []string {
	list := []string{"", "{}", "{}{}"}
	for _, end := range []string{";", "{}", "{}{}"} {
		for _, mid := range []string{"", "*", "0", "1", "=0", "<=0", "a", "a<=0", "b<=0"} {
			list = append(list, mid+end)
		}
	}
	return list
}

func closings(open int) []string {
	if open <= 0 {
		return []string{""}
	}
	list := []string{}
	for _, c := range closings(open - 1) {
		list = append(list, "}"+c, "}{}"+c)
	}
	return list
}

func canBegin(start string) bool {
	open := strings.Count(start, "{") - strings.Count(start, "}")
	if open < 0 || open > 4 {
		return false
	}
	for _, c := range closings(open) {
		for _, tail := range tails {
			if isProgram(start + tail + c) {
				return true
			}
		}
	}
	return false
}

func checkAgainstGrammar(t *testing.T, src string) {
	t.Helper()
	n, e, at := witness.Scan(src)
	if isProgram(src) {
		if e != api.OK || at != 0 || n < 1 {
			t.Errorf("P3: Scan(%q) = %d, %d, %d of a program", src, n, e, at)
		}
		return
	}
	if e != api.ErrText || n != 0 || at < 0 || at > len(src) {
		t.Errorf("P3: Scan(%q) = %d, %d, %d of no program", src, n, e, at)
		return
	}
	if !canBegin(src[:at]) {
		t.Errorf("P3: Scan(%q) tells %d, but no program begins so", src, at)
	}
	if at < len(src) && canBegin(src[:at+1]) {
		t.Errorf("P3: Scan(%q) tells %d, but a program can begin with one byte more", src, at)
	}
}

// Every one-byte change and every beginning of some programs, held against the grammar told by other means.
func TestScanNearPrograms(t *testing.T) {
	for _, base := range []string{
		"a=1;b=-10;c=*;d=-a+99;",
		"!-a-b<=-99;!c+d<=10;!*;",
		"?a<=9{a=a-0;}{!*;}@*{}b=2;",
		"@a-b<=0{?*{}{@-c<=1{@*{}}}}",
		"a=1;a=1;a=1;a=1;a=1;a=1;a=1;a=1;a=1;a=1;a=1;a=1;a=1;a=1;a=1;a=1;a=1;?*{a=1;}{@*{}}",
	} {
		if !isProgram(base) {
			t.Fatalf("%q is no program", base)
		}
		for i := 0; i <= len(base); i++ {
			checkAgainstGrammar(t, base[:i])
			for _, c := range "abd=*0159-+<{}!?@; \x00" {
				checkAgainstGrammar(t, base[:i]+string(c)+base[i:])
				if i < len(base) {
					checkAgainstGrammar(t, base[:i]+string(c)+base[i+1:])
				}
			}
		}
	}
}
