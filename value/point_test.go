package value

import (
	"math"
	"math/big"
	"math/rand"
	"testing"

	"watershed/api"
)

const round = 1 << 21

// edges are numbers about the ends of the parts, and far beyond them.
var edges = []int{0, 1, -1, 5, 1<<20 - 1, 1 << 20, 1<<20 + 1, -1 << 20, -1<<20 - 1, -1<<20 + 1, 1<<21 - 1, 1 << 21, -1 << 21, 3 << 20, 1<<19 + 3, math.MaxInt, math.MaxInt - 1, math.MinInt, math.MinInt + 1}

// back takes a number modulo 2^21 by great numbers.
func back(n *big.Int) int {
	m := int(new(big.Int).Mod(n, big.NewInt(round)).Int64())
	if m >= round/2 {
		m -= round
	}
	return m
}

func great(n int) *big.Int { return big.NewInt(int64(n)) }

func wantPoint(t *testing.T, what string, v api.Value, e api.Errno, re, im int) {
	t.Helper()
	wantValue(t, what, v, e, dot(float64(re), float64(im)))
	if math.Signbit(real(v.Point)) && re == 0 || math.Signbit(imag(v.Point)) && im == 0 {
		t.Errorf("%s: a zero with a sign", what)
	}
}

// P1.3: points are made modulo 2^21, and have parts.
func TestPoint(t *testing.T) {
	for _, re := range edges {
		for _, im := range edges {
			p := Point(re, im)
			wantPoint(t, "Point", p, Check(p), back(great(re)), back(great(im)))
			x, y, e := Parts(p)
			if x != back(great(re)) || y != back(great(im)) || e != api.OK {
				t.Errorf("Parts(Point(%d, %d)): %d, %d, %d", re, im, x, y, e)
			}
		}
	}
	if p := Point(1<<20, -1<<20-1); p.Point != complex(-1<<20, 1<<20-1) {
		t.Errorf("Point(2^20, -2^20 - 1): %v", p)
	}
}

// P1.3: sums and products of none and of one.
func TestFewPoints(t *testing.T) {
	p, e := Plus()
	wantPoint(t, "Plus of none", p, e, 0, 0)
	p, e = Times()
	wantPoint(t, "Times of none", p, e, 1, 0)
	p, e = Plus(Point(-1<<20, 7))
	wantPoint(t, "Plus of one", p, e, -1<<20, 7)
	p, e = Times(Point(-1<<20, 7))
	wantPoint(t, "Times of one", p, e, -1<<20, 7)
	p, e = Times(Point(0, 1), Point(0, 1))
	wantPoint(t, "Times", p, e, -1, 0)
	p, e = Times(Point(0, 1), Point(0, 1), Point(0, 1))
	wantPoint(t, "Times", p, e, 0, -1)
	p, e = Plus(Point(1<<20-1, -1<<20), Point(1, -1))
	wantPoint(t, "Plus", p, e, -1<<20, 1<<20-1)
}

// anyPoints tells so many points, many of them at the ends.
func anyPoints(r *rand.Rand, n int) []api.Value {
	part := func() int {
		if r.Intn(2) == 0 {
			return edges[r.Intn(len(edges))]
		}
		return r.Intn(round)
	}
	points := make([]api.Value, n)
	for i := range points {
		points[i] = Point(part(), part())
	}
	return points
}

// P1.3: sums and products, held against those of great numbers.
func TestManyPoints(t *testing.T) {
	r := rand.New(rand.NewSource(2))
	for n := range 300 {
		points := anyPoints(r, n%40)
		sumRe, sumIm, re, im := great(0), great(0), great(1), great(0)
		for _, p := range points {
			x, y := great(int(real(p.Point))), great(int(imag(p.Point)))
			sumRe.Add(sumRe, x)
			sumIm.Add(sumIm, y)
			a, b := new(big.Int).Mul(re, x), new(big.Int).Mul(im, y)
			c, d := new(big.Int).Mul(re, y), new(big.Int).Mul(im, x)
			re, im = a.Sub(a, b), c.Add(c, d)
		}
		sum, e := Plus(points...)
		wantPoint(t, "Plus", sum, e, back(sumRe), back(sumIm))
		product, e := Times(points...)
		wantPoint(t, "Times", product, e, back(re), back(im))
	}
}

// P1.3: a sum of so many that it would not be told by a float, were it not brought back.
func TestLongSum(t *testing.T) {
	points := make([]api.Value, 1<<16+1)
	for i := range points {
		points[i] = Point(1<<20-1, -1<<20)
	}
	p, e := Plus(points...)
	wantPoint(t, "Plus", p, e, back(great((1<<16+1)*(1<<20-1))), back(great((1<<16+1)*(-1<<20))))
}

// P1.3: the point on the other side of the real line.
func TestConj(t *testing.T) {
	for _, c := range [][4]int{{0, 0, 0, 0}, {3, 4, 3, -4}, {-3, -4, -3, 4}, {2, -1 << 20, 2, -1 << 20}, {-1 << 20, 1<<20 - 1, -1 << 20, -1<<20 + 1}} {
		p, e := Conj(Point(c[0], c[1]))
		wantPoint(t, "Conj", p, e, c[2], c[3])
	}
}

// P1.3: a zero with a sign is a zero as any, and what is told has none.
func TestSignedZero(t *testing.T) {
	minus := math.Copysign(0, -1)
	p := dot(minus, minus)
	if k, e := Compare(p, Point(0, 0)); k != 0 || e != api.OK {
		t.Errorf("Compare: %d, %d", k, e)
	}
	q, e := Plus(p)
	wantPoint(t, "Plus", q, e, 0, 0)
	q, e = Times(p, Point(-1, 0))
	wantPoint(t, "Times", q, e, 0, 0)
	q, e = Conj(p)
	wantPoint(t, "Conj", q, e, 0, 0)
}

// P1.1, P1.3: what isn't right, and what is no point, is refused.
func TestNoPoints(t *testing.T) {
	bad := wrongs()
	for _, v := range rights() {
		if v.Kind != api.Point {
			bad = append(bad, v)
		}
	}
	for _, v := range bad {
		if re, im, e := Parts(v); re != 0 || im != 0 || e != api.ErrValue {
			t.Errorf("Parts(%d): %d, %d, %d", v.Kind, re, im, e)
		}
		for _, points := range [][]api.Value{{v}, {Point(1, 2), v}, {v, Point(1, 2)}} {
			p, e := Plus(points...)
			wantRefused(t, "Plus", p, e)
			p, e = Times(points...)
			wantRefused(t, "Times", p, e)
		}
		p, e := Conj(v)
		wantRefused(t, "Conj", p, e)
	}
}
