package program

import "witness/api"

const noVariable = -1

// A reader goes through a text byte by byte. At the first byte with which no
// program can go on it is stuck, and takes nothing more: so at stays the
// length of the longest beginning that a program can have too.
type reader struct {
	src   string
	at    int
	stuck bool
	found []Statement
}

// Read makes a program of a text; or it answers ErrText and the place of Scan.
func Read(src string) (Program, api.Errno, int) {
	if len(src) > api.MaxText {
		return Program{}, api.ErrText, 0
	}
	r := reader{src: src}
	r.readStatements(NoPoint, 0, 0)
	if r.stuck || r.at < len(src) {
		return Program{}, api.ErrText, r.at
	}
	return Program{Statements: r.found}, api.OK, 0
}

// peek is the next byte; 0 if there is none. A byte 0 in the text needs no
// case of its own, since no rule of the grammar takes it.
func (r *reader) peek() byte {
	if r.stuck || r.at < 0 || r.at >= len(r.src) {
		return 0
	}
	return r.src[r.at]
}

func (r *reader) take(c byte) bool {
	if r.peek() != c {
		return false
	}
	r.at++
	return true
}

func (r *reader) need(c byte) {
	if !r.take(c) {
		r.stuck = true
	}
}

// readStatements ends, since each turn finds a statement more, of at most MaxStmts, or gets stuck.
func (r *reader) readStatements(parent int, block int, depth int) {
	for c := r.peek(); c != 0 && c != '}'; c = r.peek() {
		r.readStatement(parent, block, depth)
	}
}

// readStatement lays the statement down before it reads the blocks, so that
// the points come in the order in which the statements begin.
func (r *reader) readStatement(parent int, block int, depth int) {
	if len(r.found) >= api.MaxStmts {
		r.stuck = true
		return
	}
	s := Statement{Parent: parent, Block: block}
	r.readHead(&s, depth)
	if r.stuck {
		return
	}
	point := len(r.found)
	r.found = append(r.found, s)
	for b := 0; b < s.Blocks(); b++ {
		r.readBlock(point, b, depth+1)
	}
}

// readHead reads a statement up to its blocks.
func (r *reader) readHead(s *Statement, depth int) {
	r.readKind(s, depth)
	if s.Kind == Assign {
		r.need('=')
		r.readValue(s)
	} else {
		r.readCondition(s)
	}
	if s.Blocks() == 0 {
		r.need(';')
	}
}

// readKind gets stuck before a ? or @ whose blocks would lie too deep: no program goes on with it.
func (r *reader) readKind(s *Statement, depth int) {
	c := r.peek()
	switch c {
	case '!':
		s.Kind = Assert
	case '?':
		s.Kind = Choose
	case '@':
		s.Kind = Repeat
	default:
		s.Kind = Assign
		s.Target = r.readVariable(noVariable)
		return
	}
	if s.Blocks() > 0 && depth >= api.MaxDepth {
		r.stuck = true
		return
	}
	r.need(c)
}

func (r *reader) readBlock(parent int, block int, depth int) {
	r.need('{')
	r.readStatements(parent, block, depth)
	r.need('}')
}

func (r *reader) readValue(s *Statement) {
	s.Any = r.take('*')
	if s.Any {
		return
	}
	sign := r.readSign()
	c := r.peek()
	if variableOf(c) == noVariable {
		s.Number = r.readNumber(sign)
		return
	}
	v := r.readVariable(noVariable)
	s.setSign(v, sign)
	s.Number = r.readSummand()
}

// readSummand reads what may stand behind the variable of a value. Here, and here alone, -0 may stand.
func (r *reader) readSummand() int {
	if r.take('+') {
		return r.readNumber(1)
	}
	if r.take('-') {
		n := r.readNumber(1)
		return -n
	}
	return 0
}

func (r *reader) readCondition(s *Statement) {
	s.Any = r.take('*')
	if s.Any {
		return
	}
	sign := r.readSign()
	first := r.readVariable(noVariable)
	s.setSign(first, sign)
	r.readSecond(s, first)
	r.need('<')
	r.need('=')
	sign = r.readSign()
	s.Number = r.readNumber(sign)
}

// readSecond reads the second variable of a form, if there is one.
func (r *reader) readSecond(s *Statement, first int) {
	c := r.peek()
	if c != '+' && c != '-' {
		return
	}
	r.need(c)
	sign := 1
	if c == '-' {
		sign = -1
	}
	v := r.readVariable(first)
	s.setSign(v, sign)
}

func (r *reader) readSign() int {
	if r.take('-') {
		return -1
	}
	return 1
}

// readVariable gets stuck at the variable that may not stand here again.
func (r *reader) readVariable(not int) int {
	c := r.peek()
	v := variableOf(c)
	if v == noVariable || v == not {
		r.stuck = true
		return 0
	}
	r.at++
	return v
}

// readNumber reads a number of at most two digits, which is all that MaxNum
// leaves room for, and gives it the sign. There is no -0.
func (r *reader) readNumber(sign int) int {
	c := r.peek()
	if c == '0' && sign > 0 {
		r.at++
		return 0
	}
	if c < '1' || c > '9' {
		r.stuck = true
		return 0
	}
	r.at++
	n := int(c - '0')
	c = r.peek()
	if c >= '0' && c <= '9' {
		r.at++
		n = 10*n + int(c-'0')
	}
	return sign * n
}

func variableOf(c byte) int {
	if c < 'a' || c > 'd' {
		return noVariable
	}
	return int(c - 'a')
}

func (s *Statement) setSign(v int, sign int) {
	if v >= 0 && v < api.Vars {
		s.Signs[v] = sign
	}
}
