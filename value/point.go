package value

import "watershed/api"

// Point: a point.
func Point(re, im int) api.Value {
	return api.Value{Kind: api.Point, Point: complex(float64(fold(re)), float64(fold(im)))}
}

// Parts: a point's parts.
func Parts(v api.Value) (re, im int, e api.Errno) {
	if Check(v) != api.OK || v.Kind != api.Point {
		return 0, 0, api.ErrValue
	}
	return int(real(v.Point)), int(imag(v.Point)), api.OK
}

// Plus: the sum of points.
func Plus(points ...api.Value) (api.Value, api.Errno) {
	sum := Point(0, 0)
	for _, p := range points {
		if _, _, e := Parts(p); e != api.OK {
			return api.Value{}, e
		}
		sum = bringBack(sum.Point + p.Point)
	}
	return sum, api.OK
}

// Times: the product of points.
func Times(points ...api.Value) (api.Value, api.Errno) {
	product := Point(1, 0)
	for _, p := range points {
		if _, _, e := Parts(p); e != api.OK {
			return api.Value{}, e
		}
		product = bringBack(product.Point * p.Point)
	}
	return product, api.OK
}

// Conj: the point on the other side of the real line.
func Conj(v api.Value) (api.Value, api.Errno) {
	re, im, e := Parts(v)
	if e != api.OK {
		return api.Value{}, e
	}
	return Point(re, -im), api.OK
}

// bringBack is done behind every sum and product: the parts of one such are at most
// 2^41, which floats tell exactly; those of many together would not be.
func bringBack(c complex128) api.Value {
	return Point(int(real(c)), int(imag(c)))
}

// fold takes n modulo 2^21, as the number from -Half to Half-1. The sum may wrap
// round: that is by a multiple of 2^21, which the mask doesn't see.
func fold(n int) int {
	return (n+api.Half)&(2*api.Half-1) - api.Half
}

// isPart: may it be a part of a point? What is no number is outside of every bound.
func isPart(f float64) bool {
	return f >= -api.Half && f <= api.Half-1 && f == float64(int(f))
}
