// Package effect tells what statements make of octagons, and where they go wrong.
package effect

import (
	"witness/api"
	"witness/octagon"
	"witness/program"
)

// Post is the least octagon of what a statement makes of the states of o and goes on with by a way that it has.
func Post(s program.Statement, way int, o octagon.Octagon) octagon.Octagon {
	if o.Empty {
		return o
	}
	if s.Kind == program.Assign {
		return assigned(s, o)
	}
	if s.Any {
		return o
	}
	if way == 0 {
		return o.AtMost(s.Signs, s.Number)
	}
	return o.AtMost(turned(s.Signs), -s.Number-1)
}

func assigned(s program.Statement, o octagon.Octagon) octagon.Octagon {
	if s.Any {
		return o.SetBetween(s.Target, -api.MaxValue, api.MaxValue)
	}
	return o.SetSum(s.Target, s.Signs, s.Number)
}

// Safe tells whether a statement goes wrong in no state of o.
func Safe(s program.Statement, o octagon.Octagon) bool {
	if o.Empty {
		return true
	}
	switch s.Kind {
	case program.Assign:
		return s.Any || fits(s, o)
	case program.Assert:
		return !s.Any && o.Greatest(s.Signs) <= s.Number
	}
	return true
}

// fits tells whether the value of an assignment is none that a run would overflow at.
func fits(s program.Statement, o octagon.Octagon) bool {
	high := o.Greatest(s.Signs)
	low := o.Greatest(turned(s.Signs))
	if high == api.NoBound || low == api.NoBound {
		return false
	}
	return high+s.Number <= api.MaxValue && low-s.Number <= api.MaxValue
}

// turned has the other sign at each variable.
func turned(signs [api.Vars]int) [api.Vars]int {
	for v := 0; v < api.Vars; v++ {
		signs[v] = -signs[v]
	}
	return signs
}
