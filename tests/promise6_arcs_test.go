package tests

import (
	"fmt"
	"math"
	"math/big"
	"testing"

	"loop.example/g01061/impl"
)

// beyondCoord are numbers that are no coordinates.
var beyondCoord = []int64{math.MinInt64, math.MinInt64 + 1, -1 << 32, -100002, -100001, 100001, 100002, 1 << 32, 1<<32 + 6, math.MaxInt64 - 1, math.MaxInt64}

func point(x, y int64) impl.Point { return impl.Point{X: x, Y: y} }

func arc(centerX, centerY, fromX, fromY, toX, toY int64) impl.Arc {
	return impl.Arc{Center: point(centerX, centerY), From: point(fromX, fromY), To: point(toX, toY)}
}

// coordinatesOf returns the six coordinates of an arc, in the order of the arguments of arc.
func coordinatesOf(a *impl.Arc) [6]*int64 {
	return [...]*int64{&a.Center.X, &a.Center.Y, &a.From.X, &a.From.Y, &a.To.X, &a.To.Y}
}

// squareOf returns the square of the distance of two points, whatever their coordinates are.
func squareOf(p, q impl.Point) *big.Int {
	x := new(big.Int).Sub(big.NewInt(p.X), big.NewInt(q.X))
	y := new(big.Int).Sub(big.NewInt(p.Y), big.NewInt(q.Y))
	return x.Add(x.Mul(x, x), y.Mul(y, y))
}

// isArc reports whether an arc is valid by the definition.
func isArc(a impl.Arc) bool {
	for _, n := range coordinatesOf(&a) {
		if *n < -100000 || *n > 100000 {
			return false
		}
	}
	return a.From != a.To && squareOf(a.Center, a.From).Cmp(squareOf(a.Center, a.To)) == 0
}

// directionOf returns the direction from one point to another one in lowest terms. Opposite
// directions, which lie on one line, are the same.
func directionOf(p, q impl.Point) impl.Point {
	d := point(q.X-p.X, q.Y-p.Y)
	if d == point(0, 0) {
		return d
	}
	g := divisorOf(d.X, d.Y)
	if d.X < 0 || d.X == 0 && d.Y < 0 {
		g = -g
	}
	return point(d.X/g, d.Y/g)
}

// divisorOf returns the greatest common divisor of two numbers, which are not both 0.
func divisorOf(a, b int64) int64 {
	return new(big.Int).GCD(nil, nil, big.NewInt(max(a, -a)), big.NewInt(max(b, -b))).Int64()
}

// isSmoothAt reports whether the centers of two valid arcs and their joint lie on one line.
func isSmoothAt(a, b impl.Arc) bool {
	return directionOf(a.To, a.Center) == directionOf(a.To, b.Center)
}

// smallArcs returns all arcs with coordinates from -most to most, valid or not.
func smallArcs(most int64) []impl.Arc {
	var points []impl.Point
	for x := -most; x <= most; x++ {
		for y := -most; y <= most; y++ {
			points = append(points, point(x, y))
		}
	}
	var arcs []impl.Arc
	for _, center := range points {
		for _, from := range points {
			for _, to := range points {
				arcs = append(arcs, impl.Arc{Center: center, From: from, To: to})
			}
		}
	}
	return arcs
}

// checkArc checks whether an arc is valid, and its radius.
func checkArc(t *testing.T, a impl.Arc, want ...int64) {
	t.Helper()
	same(t, "ValidArc of "+shown(a), impl.ValidArc(a), want[1] == impl.OK)
	radius, code := impl.RadiusSquared(a)
	same(t, "RadiusSquared of "+shown(a), []int64{radius, code}, want)
}

func TestPromise6Constants(t *testing.T) {
	same(t, "constants", []int64{impl.MaxArcs, impl.MaxCoord, impl.MaxOval}, []int64{16, 100000, 10000})
}

func TestPromise6SmallArcs(t *testing.T) {
	valid := 0
	for _, a := range smallArcs(2) {
		if !isArc(a) {
			checkArc(t, a, 0, impl.ErrInvalid)
			continue
		}
		valid++
		checkArc(t, a, squareOf(a.Center, a.From).Int64(), impl.OK)
	}
	if valid < 1000 {
		t.Errorf("only %d valid arcs", valid)
	}
}

func TestPromise6ArcsTellTheirValue(t *testing.T) {
	for _, c := range []struct {
		a            impl.Arc
		radius, code int64
	}{
		{arc(0, -4, 6, 4, -6, 4), 100, 0}, {arc(-3, 0, -6, 4, -6, -4), 25, 0}, {arc(0, 0, 1, 0, 0, 1), 1, 0}, {arc(0, 0, 5, 0, -3, 4), 25, 0},
		{arc(0, 0, 5, 0, 5, 0), 0, 1}, {arc(0, 0, 0, 0, 0, 0), 0, 1}, {arc(0, 0, 0, 0, 1, 0), 0, 1}, {arc(0, 0, 1, 0, 0, 0), 0, 1}, {arc(0, 0, 5, 0, 3, 3), 0, 1}, {arc(0, 0, 5, 0, 0, 6), 0, 1},
		{arc(0, 0, 100000, 0, -100000, 0), 10000000000, 0}, {arc(0, 0, 100000, 100000, -100000, -100000), 20000000000, 0}, {arc(-100000, 0, 100000, 100000, 100000, -100000), 50000000000, 0},
		{arc(-100000, -100000, 100000, 99999, 99999, 100000), 79999600001, 0}, {arc(100000, 100000, -100000, -99999, -99999, -100000), 79999600001, 0}, {arc(-100000, -100000, 100000, 99999, 100000, 99998), 0, 1},
		{arc(-100000, 0, 100000, 0, 100000, 1), 0, 1}, {arc(100000, -100000, -100000, -99999, -100000, -100000), 0, 1}, {arc(0, 100000, 99999, -100000, 100000, -99999), 0, 1}, {arc(-100000, 0, 100000, 1, 100000, -1), 40000000001, 0},
	} {
		checkArc(t, c.a, c.radius, c.code)
	}
}

func TestPromise6CoordinatesAtTheLimits(t *testing.T) {
	for _, base := range []impl.Arc{arc(0, 0, 1, 1, -1, -1), arc(0, 0, 1, -1, -1, 1)} {
		checkArc(t, base, 2, impl.OK)
		for _, moves := range [][2]int64{{99999, 0}, {-99999, 0}, {0, 99999}, {0, -99999}, {99999, -99999}, {-99999, 99999}} {
			a := base
			for j, n := range coordinatesOf(&a) {
				*n += moves[j%2]
			}
			checkArc(t, a, 2, impl.OK)
			for j, n := range coordinatesOf(&a) {
				*n += moves[j%2] / 99999
			}
			checkArc(t, a, 0, impl.ErrInvalid)
		}
		for j := range 6 {
			for _, n := range beyondCoord {
				a := base
				*coordinatesOf(&a)[j] = n
				checkArc(t, a, 0, impl.ErrInvalid)
				same(t, fmt.Sprintf("IsSmoothJoint of %s", shown(a)), []bool{impl.IsSmoothJoint(a, base), impl.IsSmoothJoint(base, a), impl.IsSmoothJoint(a, a)}, []bool{false, false, false})
			}
		}
	}
}

// checkCenter checks arcs whose centers are the only points that may lie beyond the limits.
func checkCenter(t *testing.T, n int64, want ...int64) {
	t.Helper()
	checkArc(t, arc(n, 0, 0, 1, 0, -1), want...)
	checkArc(t, arc(0, n, 1, 0, -1, 0), want...)
}

func TestPromise6CentersAtTheLimits(t *testing.T) {
	checkCenter(t, -100000, 10000000001, impl.OK)
	checkCenter(t, 100000, 10000000001, impl.OK)
	for _, n := range beyondCoord {
		checkCenter(t, n, 0, impl.ErrInvalid)
	}
}

func TestPromise6SmallJoints(t *testing.T) {
	arcs := smallArcs(1)
	smooth := 0
	for _, a := range arcs {
		for _, b := range arcs {
			want := isArc(a) && isArc(b) && a.To == b.From && isSmoothAt(a, b)
			if got := impl.IsSmoothJoint(a, b); got != want {
				t.Fatalf("IsSmoothJoint(%v, %v): got %t, want %t", a, b, got, want)
			}
			if want {
				smooth++
			}
		}
	}
	if smooth < 100 {
		t.Errorf("only %d smooth joints", smooth)
	}
}

func TestPromise6JointsTellTheirValue(t *testing.T) {
	a := arc(0, 0, -5, 0, 5, 0)
	for _, c := range []struct {
		b    impl.Arc
		want bool
	}{
		{arc(0, 0, 5, 0, -5, 0), true}, {arc(0, 0, 5, 0, 0, 5), true}, {arc(4, 0, 5, 0, 4, 1), true}, {arc(-7, 0, 5, 0, -7, 12), true},
		{arc(10, 0, 5, 0, 10, 5), true}, {arc(99999, 0, 5, 0, 99999, 99994), true}, {arc(0, 1, 5, 0, -5, 0), false}, {arc(0, -1, 5, 0, -5, 0), false}, {arc(5, 3, 5, 0, 5, 6), false},
		{arc(10, 1, 5, 0, 10, 1), false}, {arc(0, 0, 5, 0, 5, 0), false}, {arc(0, 0, 5, 0, 4, 0), false}, {arc(0, 0, 0, 5, 5, 0), false}, {arc(0, 0, -5, 0, 5, 0), false}, {arc(0, 0, 5, 1, -5, 1), false}, {arc(0, 0, 4, 0, -4, 0), false},
	} {
		same(t, fmt.Sprintf("IsSmoothJoint of %v and %v", a, c.b), impl.IsSmoothJoint(a, c.b), c.want)
	}
	wrong := arc(0, 0, -5, 1, 5, 0)
	same(t, "IsSmoothJoint behind an arc that is not valid", impl.IsSmoothJoint(wrong, arc(0, 0, 5, 0, -5, 0)), false)
	wrong = arc(0, 0, 5, 0, 5, 0)
	same(t, "IsSmoothJoint of points", []bool{impl.IsSmoothJoint(wrong, wrong), impl.IsSmoothJoint(impl.Arc{}, impl.Arc{})}, []bool{false, false})
}

// checkJointWithin checks a joint at (-100000, 0) of arcs with centers behind two steps from it, and
// the same with x and y exchanged.
func checkJointWithin(t *testing.T, first, second impl.Point, want bool) {
	t.Helper()
	a := arc(first.X-100000, first.Y, 2*first.X-100000, 0, -100000, 0)
	b := arc(second.X-100000, second.Y, -100000, 0, 2*second.X-100000, 0)
	same(t, fmt.Sprintf("IsSmoothJoint(%v, %v)", a, b), impl.IsSmoothJoint(a, b), want)
	for _, x := range []*impl.Arc{&a, &b} {
		for _, p := range []*impl.Point{&x.Center, &x.From, &x.To} {
			p.X, p.Y = p.Y, p.X
		}
	}
	same(t, fmt.Sprintf("IsSmoothJoint(%v, %v)", a, b), impl.IsSmoothJoint(a, b), want)
}

func TestPromise6JointsWithLargeNumbers(t *testing.T) {
	for _, n := range []int64{3, 1000, 40000, 65535, 65536, 80000, 99999} {
		checkJointWithin(t, point(n, n-1), point(n-1, n-2), false)
		checkJointWithin(t, point(n-1, n-2), point(n, n-1), false)
		checkJointWithin(t, point(n, n), point(n, n), true)
		checkJointWithin(t, point(n, n), point(1, 1), true)
		checkJointWithin(t, point(n, n), point(n, n-1), false)
		checkJointWithin(t, point(n, n), point(n, -n), false)
		checkJointWithin(t, point(n, -n), point(n-1, 1-n), true)
		checkJointWithin(t, point(n, 1), point(n, 0), false)
		checkJointWithin(t, point(n, 0), point(1, 0), true)
	}
	checkJointWithin(t, point(100000, 100000), point(99999, 99999), true)
	checkJointWithin(t, point(100000, 99999), point(99999, 99998), false)
	checkJointWithin(t, point(99990, 66660), point(3, 2), true)
}
