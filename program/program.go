// Package program reads the texts of programs and tells where the ways out of their statements lead.
package program

import "witness/api"

// The kinds of statements.
const (
	Assign = 0 // an assignment
	Assert = 1 // an assertion: !
	Choose = 2 // ?
	Repeat = 3 // @
)

// NoPoint stands where there is no statement.
const NoPoint = -1

// A Statement is one statement, without what stands in its blocks: those statements name it as their Parent.
type Statement struct {
	Kind   int
	Target int           // the variable of an assignment
	Any    bool          // the value or the condition is *
	Signs  [api.Vars]int // of each variable in the value or the form: 1, -1, or 0 if it is not in there
	Number int           // what is added to a value, or what the form of a condition is held against
	Parent int           // the point of the ? or @ in whose block it stands, or NoPoint
	Block  int           // which block of the Parent that is: 0 or 1
}

// A Program has its statements in the order of their points.
type Program struct {
	Statements []Statement
}

// Ways tells how many ways lead out of a statement.
func (s Statement) Ways() int {
	if s.Kind == Choose || s.Kind == Repeat {
		return 2
	}
	return 1
}

// Blocks tells how many blocks a statement has.
func (s Statement) Blocks() int {
	switch s.Kind {
	case Choose:
		return 2
	case Repeat:
		return 1
	}
	return 0
}

// Sum is what the variables of the value or the form come to, by their signs.
func (s Statement) Sum(values [api.Vars]int) int {
	sum := 0
	for v := 0; v < api.Vars; v++ {
		sum += s.Signs[v] * values[v]
	}
	return sum
}

// End is the point behind all statements.
func (p Program) End() int {
	return len(p.Statements)
}

// At is the statement that begins at a point.
func (p Program) At(point int) (Statement, api.Errno) {
	if point < 0 || point >= len(p.Statements) {
		return Statement{}, api.ErrPoint
	}
	return p.Statements[point], api.OK
}

// WithWay is the statement that begins at a point and has a way out.
func (p Program) WithWay(point int, way int) (Statement, api.Errno) {
	s, err := p.At(point)
	if err != api.OK {
		return Statement{}, err
	}
	if way < 0 || way >= s.Ways() {
		return Statement{}, api.ErrPoint
	}
	return s, api.OK
}

// Next tells the point to which a way out of a point leads.
func (p Program) Next(point int, way int) (int, api.Errno) {
	s, err := p.WithWay(point, way)
	if err != api.OK {
		return 0, err
	}
	if way >= s.Blocks() {
		return p.following(point), api.OK
	}
	first := p.firstIn(point, way, point+1)
	if first != NoPoint {
		return first, api.OK
	}
	if s.Kind == Repeat {
		return point, api.OK
	}
	return p.following(point), api.OK
}

// following tells what follows a statement. It climbs out of blocks that end
// behind it; that ends, since the point of a Parent is always a lower one.
func (p Program) following(point int) int {
	for point >= 0 && point < len(p.Statements) {
		s := p.Statements[point]
		next := p.firstIn(s.Parent, s.Block, point+1)
		if next != NoPoint {
			return next
		}
		if p.isRepeat(s.Parent) {
			return s.Parent
		}
		point = s.Parent
	}
	return p.End()
}

// firstIn is the first statement of a block among the points not below from, or NoPoint.
func (p Program) firstIn(parent int, block int, from int) int {
	for i, s := range p.Statements {
		if i >= from && s.Parent == parent && s.Block == block {
			return i
		}
	}
	return NoPoint
}

func (p Program) isRepeat(point int) bool {
	s, err := p.At(point)
	return err == api.OK && s.Kind == Repeat
}
