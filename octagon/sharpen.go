package octagon

import "witness/api"

// sharpen makes bounds as sharp as whole numbers allow. These three steps, each
// of them once and in this order, are enough: Bagnara, Hill and Zaffanella, "An
// improved tight closure algorithm for integer octagonal constraints" (2008).
// No step lifts a bound, so a contradiction is still there at the end.
func (o *Octagon) sharpen() {
	for side := 0; side < sides; side++ {
		o.chain(side)
	}
	o.roundDown()
	o.addHalves()
	o.Empty = o.contradicts()
}

// chain adds sums in which a side and its opposite cancel each other.
func (o *Octagon) chain(side int) {
	if side < 0 || side >= sides {
		return
	}
	for i := 0; i < sides; i++ {
		for j := 0; j < sides; j++ {
			n := plus(o.sums[i][opposite(side)], o.sums[side][j])
			if n < o.sums[i][j] {
				o.sums[i][j] = n
			}
		}
	}
}

// roundDown makes the sums of a side with itself even: twice a whole number is.
func (o *Octagon) roundDown() {
	for i := 0; i < sides; i++ {
		if o.sums[i][i] != api.NoBound {
			o.sums[i][i] = halfBelow(o.sums[i][i]) * 2
		}
	}
}

// halfBelow is the greatest whole number that is no greater than half of n.
func halfBelow(n int) int {
	half := n / 2
	if half*2 > n {
		return half - 1
	}
	return half
}

// addHalves holds each sum of two sides against the bounds of the two alone.
func (o *Octagon) addHalves() {
	for i := 0; i < sides; i++ {
		for j := 0; j < sides; j++ {
			n := plus(o.sums[i][i], o.sums[j][j])
			if n != api.NoBound && n/2 < o.sums[i][j] {
				o.sums[i][j] = n / 2
			}
		}
	}
}

// contradicts tells whether a side and its opposite, which are 0 together, would have to be less.
func (o *Octagon) contradicts() bool {
	for i := 0; i < sides; i++ {
		if o.sums[i][opposite(i)] < 0 {
			return true
		}
	}
	return false
}
