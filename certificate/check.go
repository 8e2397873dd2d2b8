package certificate

import (
	"witness/api"
	"witness/effect"
	"witness/octagon"
	"witness/program"
)

// Check tells whether a certificate shows that no run of a program goes wrong.
// If it does not: what it lacks, and at which point.
func Check(p program.Program, cert string) (api.Errno, int) {
	claims, err := readClaims(cert)
	if err != api.OK || len(claims) != p.End()+1 {
		return api.ErrCert, 0
	}
	begin := claimAt(claims, 0)
	origin := octagon.Origin()
	if !origin.Within(begin) {
		return api.ErrEntry, 0
	}
	for point := 0; point < p.End(); point++ {
		err = checkPoint(p, claims, point)
		if err != api.OK {
			return err, point
		}
	}
	return api.OK, 0
}

// readClaims reads the octagons of a certificate. That nothing comes to a point
// says the same of it as an octagon without states: both are Empty here.
func readClaims(cert string) ([]octagon.Octagon, api.Errno) {
	lists, err := Decode(cert)
	if err != api.OK {
		return nil, err
	}
	claims := make([]octagon.Octagon, 0, maxPoints)
	for _, list := range lists {
		claim := octagon.Octagon{Empty: true}
		if list != nil {
			claim, err = octagon.Read(list)
		}
		if err != api.OK {
			return nil, err
		}
		claims = append(claims, claim)
	}
	return claims, api.OK
}

func claimAt(claims []octagon.Octagon, point int) octagon.Octagon {
	if point < 0 || point >= len(claims) {
		return octagon.Octagon{Empty: true}
	}
	return claims[point]
}

// checkPoint tells whether nothing goes wrong at a point, and every way out of it leads into what is claimed there.
func checkPoint(p program.Program, claims []octagon.Octagon, point int) api.Errno {
	s, err := p.At(point)
	if err != api.OK {
		return err
	}
	here := claimAt(claims, point)
	if !effect.Safe(s, here) {
		return api.ErrAlarm
	}
	for way := 0; way < s.Ways(); way++ {
		next, err := p.Next(point, way)
		if err != api.OK {
			return err
		}
		there := claimAt(claims, next)
		after := effect.Post(s, way, here)
		if !after.Within(there) {
			return api.ErrEdge
		}
	}
	return api.OK
}
