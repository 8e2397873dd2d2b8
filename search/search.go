// Package search looks for certificates.
package search

import (
	"witness/api"
	"witness/certificate"
	"witness/octagon"
	"witness/program"
)

// A place is a point and what is claimed there.
type place struct {
	claim octagon.Octagon
	waits bool // the claim has grown since the ways out of the point were followed
}

// A search claims at each point what every certificate with which Check is OK
// has to claim there: the beginning, and the least octagons of what comes out of
// points whose claims are such themselves. So if something goes wrong in these
// claims, there is no certificate; and if no way leads out of them, they are one.
type search struct {
	program program.Program
	places  []place
	growing bool // a claim has grown in this round
}

// Every value that is claimed is from -MaxValue to MaxValue, and a sum of two from
// twice the one to twice the other: no bound is lifted more often.
const maxLifts = 4 * api.MaxValue

// Each round but the last one lifts a bound of a claim, or makes the first claim of a point.
const maxRounds = (api.MaxStmts+1)*(api.Bounds*maxLifts+1) + 1

// Find answers a certificate with which Check is OK, or ErrUnknown. What the
// search claims is only believed if Check is OK with it.
func Find(p program.Program) (string, api.Errno) {
	s := search{program: p, places: noClaims(p)}
	origin := octagon.Origin()
	s.claim(0, origin)
	for round := 0; round < maxRounds && s.growing; round++ {
		s.goRound()
	}
	lists := s.lists()
	cert, err := certificate.Encode(lists)
	if err != api.OK {
		return "", api.ErrUnknown
	}
	err, _ = certificate.Check(p, cert)
	if err != api.OK {
		return "", api.ErrUnknown
	}
	return cert, api.OK
}

func noClaims(p program.Program) []place {
	places := make([]place, 0, api.MaxStmts+1)
	for point := 0; point <= p.End(); point++ {
		places = append(places, place{claim: octagon.Octagon{Empty: true}})
	}
	return places
}

// lists tells the claims; nil, where nothing comes.
func (s *search) lists() [][]int {
	lists := make([][]int, 0, api.MaxStmts+1)
	for _, here := range s.places {
		list := here.claim.List()
		lists = append(lists, list)
	}
	return lists
}
