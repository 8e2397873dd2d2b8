package search

import (
	"witness/api"
	"witness/effect"
	"witness/octagon"
)

// goRound follows the ways out of the points that wait, in their order: most
// ways lead to a greater point, which then has its turn in the same round.
func (s *search) goRound() {
	s.growing = false
	for point := 0; point < len(s.places); point++ {
		here := s.places[point]
		if here.waits {
			s.places[point].waits = false
			s.follow(point, here.claim)
		}
	}
}

// follow claims what comes out of a point. Where something goes wrong nothing
// does: there is no certificate then, and the values could grow without end.
func (s *search) follow(point int, here octagon.Octagon) {
	statement, err := s.program.At(point)
	if err != api.OK {
		return
	}
	if !effect.Safe(statement, here) {
		return
	}
	for way := 0; way < statement.Ways(); way++ {
		next, err := s.program.Next(point, way)
		if err != api.OK {
			return
		}
		after := effect.Post(statement, way, here)
		s.claim(next, after)
	}
}

// claim makes the claim at a point have the states of o too.
func (s *search) claim(point int, o octagon.Octagon) {
	if point < 0 || point >= len(s.places) {
		return
	}
	here := s.places[point].claim
	if o.Within(here) {
		return
	}
	s.places[point].claim = here.Join(o)
	s.places[point].waits = true
	s.growing = true
}
