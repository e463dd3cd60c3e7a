package tests

import (
	"fmt"
	"math"
	"math/rand"
	"slices"
	"testing"

	"loop.example/g01061/impl"
)

// isOutline reports whether a list of arcs is valid by the definition.
func isOutline(list []impl.Arc) bool {
	if len(list) < 2 || len(list) > 16 {
		return false
	}
	for k, a := range list {
		if !isArc(a) || a.To != list[(k+1)%len(list)].From {
			return false
		}
	}
	return true
}

// cornersIn returns the corners of a valid outline by the definition.
func cornersIn(list []impl.Arc) []int64 {
	corners := []int64{}
	for k := range list {
		next := 0
		if k+1 < len(list) {
			next = k + 1
		}
		if !isSmoothAt(list[k], list[next]) {
			corners = append(corners, int64(k))
		}
	}
	return corners
}

// arcBetween returns an arc from one point to another one, whose coordinates are all even, with a
// center so many steps beside the middle between them.
func arcBetween(from, to impl.Point, steps int64) impl.Arc {
	x, y := to.X-from.X, to.Y-from.Y
	divisor := divisorOf(x, y)
	return impl.Arc{Center: point((from.X+to.X)/2-steps*y/divisor, (from.Y+to.Y)/2+steps*x/divisor), From: from, To: to}
}

func randomCorner(random *rand.Rand) impl.Point {
	return point(2*random.Int63n(5)-4, 2*random.Int63n(5)-4)
}

// randomOutline is a closed chain of so many arcs, with many smooth joints among its corners.
func randomOutline(random *rand.Rand, many int) []impl.Arc {
	corners := make([]impl.Point, many)
	for k := range corners {
		corners[k] = randomCorner(random)
		for k > 0 && corners[k] == corners[k-1] || k == many-1 && corners[k] == corners[0] {
			corners[k] = randomCorner(random)
		}
	}
	list := make([]impl.Arc, many)
	for k, from := range corners {
		to := corners[(k+1)%many]
		list[k] = arcBetween(from, to, random.Int63n(7)-3)
		for _, steps := range random.Perm(7) {
			a := arcBetween(from, to, int64(steps)-3)
			if k > 0 && random.Intn(8) > 0 && isSmoothAt(list[k-1], a) {
				list[k] = a
			}
		}
	}
	begin := random.Intn(many)
	return scaled(slices.Concat(list[begin:], list[:begin]), []int64{1, 1, 1, 2, 3, 1000, 2000}[random.Intn(7)])
}

// scaled returns the arcs with all coordinates times a number.
func scaled(list []impl.Arc, by int64) []impl.Arc {
	list = slices.Clone(list)
	for k := range list {
		for _, n := range coordinatesOf(&list[k]) {
			*n *= by
		}
	}
	return list
}

// chainOf returns an outline of an even number of arcs that go to and fro between two points, with a
// corner at each joint.
func chainOf(many int) []impl.Arc {
	list := make([]impl.Arc, many)
	for k := range list {
		from := int64(k % 2 * 2)
		list[k] = arcBetween(point(from, 0), point(2-from, 0), int64(k))
	}
	return list
}

// checkOutline checks the functions that tell something of an outline.
func checkOutline(t *testing.T, list []impl.Arc, corners []int64, area int64, box []int64, sharpest int64) {
	t.Helper()
	name := " of " + fmt.Sprint(list)
	same(t, "ValidOutline"+name, impl.ValidOutline(list), true)
	gotCorners, code := impl.CornersOf(list)
	same(t, "CornersOf"+name, []any{fmt.Sprint(gotCorners), code}, []any{fmt.Sprint(corners), int64(impl.OK)})
	same(t, "IsSmooth"+name, impl.IsSmooth(list), len(corners) == 0)
	gotArea, code := impl.TwiceArea(list)
	same(t, "TwiceArea"+name, []int64{gotArea, code}, []int64{area, impl.OK})
	gotBox, code := impl.BoxOf(list)
	same(t, "BoxOf"+name, []any{gotBox, code}, []any{box, int64(impl.OK)})
	gotSharpest, code := impl.SharpestOf(list)
	same(t, "SharpestOf"+name, []int64{gotSharpest, code}, []int64{sharpest, impl.OK})
}

// checkInvalidOutline checks that a list is as nothing, whatever else is wrong.
func checkInvalidOutline(t *testing.T, list []impl.Arc) {
	t.Helper()
	name := " of " + shown(list)
	check := func(function string, isZero bool, code int64) {
		t.Helper()
		same(t, function+name, []any{isZero, code}, []any{true, int64(impl.ErrInvalid)})
	}
	same(t, "ValidOutline"+name, impl.ValidOutline(list), false)
	same(t, "IsSmooth"+name, impl.IsSmooth(list), false)
	corners, code := impl.CornersOf(list)
	check("CornersOf", len(corners) == 0, code)
	area, code := impl.TwiceArea(list)
	check("TwiceArea", area == 0, code)
	box, code := impl.BoxOf(list)
	check("BoxOf", len(box) == 0, code)
	sharpest, code := impl.SharpestOf(list)
	check("SharpestOf", sharpest == 0, code)
	mirrored, code := impl.MirrorOutline(list)
	check("MirrorOutline", len(mirrored) == 0, code)
	for _, c := range [][2]int64{{0, 0}, {1, -1}, {100000, 100000}, {100001, 0}, {0, -100001}, {math.MinInt64, math.MaxInt64}} {
		moved, code := impl.MoveOutline(list, c[0], c[1])
		check(fmt.Sprintf("MoveOutline by %v", c), len(moved) == 0, code)
	}
}

func TestPromise6ExampleOval(t *testing.T) {
	oval, code := impl.OvalOutline(1, 1)
	want := []impl.Arc{arc(0, -4, 6, 4, -6, 4), arc(-3, 0, -6, 4, -6, -4), arc(0, 4, -6, -4, 6, -4), arc(3, 0, 6, -4, 6, 4)}
	same(t, "OvalOutline(1, 1)", []any{oval, code}, []any{want, int64(impl.OK)})
	checkOutline(t, oval, []int64{}, 192, []int64{-6, -4, 6, 4}, 1)
}

// checkOval checks an oval, and that it is smooth.
func checkOval(t *testing.T, k, m int64) {
	t.Helper()
	oval, code := impl.OvalOutline(k, m)
	x, y := 3*k+3*m, 4*m
	want := []impl.Arc{arc(0, -4*k, x, y, -x, y), arc(-3*k, 0, -x, y, -x, -y), arc(0, 4*k, -x, -y, x, -y), arc(3*k, 0, x, -y, x, y)}
	same(t, fmt.Sprintf("OvalOutline(%d, %d)", k, m), []any{oval, code}, []any{want, int64(impl.OK)})
	checkOutline(t, oval, []int64{}, 8*x*y, []int64{-x, -y, x, y}, min(k, 1))
	for j, a := range oval {
		same(t, fmt.Sprintf("IsSmoothJoint %d of the oval %d, %d", j, k, m), impl.IsSmoothJoint(a, oval[(j+1)%4]), true)
		radius, code := impl.RadiusSquared(a)
		sum := m
		if j%2 == 0 {
			sum += k
		}
		same(t, fmt.Sprintf("RadiusSquared of arc %d of the oval %d, %d", j, k, m), []int64{radius, code}, []int64{25 * sum * sum, impl.OK})
	}
}

func TestPromise6OvalsAreSmooth(t *testing.T) {
	limits := []int64{0, 1, 2, 9999, 10000}
	for _, k := range limits {
		for _, m := range limits[1:] {
			checkOval(t, k, m)
		}
	}
	for k := range int64(30) {
		for m := range int64(30) {
			checkOval(t, k, m+1)
		}
	}
	random := rand.New(rand.NewSource(31))
	for range 1000 {
		checkOval(t, random.Int63n(10001), 1+random.Int63n(10000))
	}
}

func TestPromise6OvalRefuses(t *testing.T) {
	wrong := []int64{math.MinInt64, math.MinInt64 + 1, -10000, -2, -1, 10001, 10002, 1 << 32, 1<<32 + 1, math.MaxInt64 - 1, math.MaxInt64}
	check := func(k, m int64) {
		t.Helper()
		oval, code := impl.OvalOutline(k, m)
		same(t, fmt.Sprintf("OvalOutline(%d, %d)", k, m), []any{len(oval), code}, []any{0, int64(impl.ErrRange)})
	}
	for _, n := range wrong {
		check(n, 1)
		check(n, 10000)
		check(0, n)
		check(10000, n)
		check(n, n)
		check(n, 0)
	}
	check(0, 0)
	check(1, 0)
	check(10000, 0)
}

func TestPromise6NumbersOfArcs(t *testing.T) {
	for many := 2; many <= 18; many += 2 {
		list := chainOf(many)
		if many > impl.MaxArcs {
			checkInvalidOutline(t, list)
			continue
		}
		same(t, fmt.Sprintf("ValidOutline of %d arcs", many), impl.ValidOutline(list), true)
		checkInvalidOutline(t, list[1:])
		checkInvalidOutline(t, list[:many-1])
	}
	random := rand.New(rand.NewSource(32))
	for _, many := range []int{2, 3, 15, 16, 17, 18, 100, 1000} {
		list := randomOutline(random, many)
		same(t, fmt.Sprintf("ValidOutline of %d arcs", many), impl.ValidOutline(list), many <= 16)
		if many > 16 {
			checkInvalidOutline(t, list)
		}
	}
	checkInvalidOutline(t, nil)
	checkInvalidOutline(t, []impl.Arc{})
	checkInvalidOutline(t, []impl.Arc{{}})
	checkInvalidOutline(t, make([]impl.Arc, 2))
	checkInvalidOutline(t, []impl.Arc{arc(0, 0, 5, 0, -5, 0)})
	checkInvalidOutline(t, []impl.Arc{arc(0, 0, 5, 0, 5, 0)})
	checkInvalidOutline(t, slices.Repeat([]impl.Arc{arc(0, 0, 5, 0, 5, 0)}, 2))
}

func TestPromise6WrongArcsInOutlines(t *testing.T) {
	random := rand.New(rand.NewSource(33))
	for range 100 {
		list := randomOutline(random, 2+random.Intn(15))
		for k := range list {
			for j := range 6 {
				for _, n := range []int64{math.MinInt64, -100001, 100001, math.MaxInt64, *coordinatesOf(&list[k])[j] + 1} {
					wrong := slices.Clone(list)
					*coordinatesOf(&wrong[k])[j] = n
					// The center may be moved along the line of points that are as far from both ends.
					if !isOutline(wrong) {
						checkInvalidOutline(t, wrong)
					}
				}
			}
			checkInvalidOutline(t, slices.Concat(list[:k], []impl.Arc{{Center: list[k].Center, From: list[k].From, To: list[k].From}}, list[k:]))
			reversed := slices.Clone(list)
			reversed[k].From, reversed[k].To = list[k].To, list[k].From
			checkInvalidOutline(t, reversed)
		}
	}
}

func TestPromise6OpenChains(t *testing.T) {
	// Valid arcs, of which only one joint does not close, at each place of the list.
	oval, _ := impl.OvalOutline(1, 1)
	for _, last := range []impl.Arc{arc(0, 0, 6, -4, 4, 6), arc(3, -1, 6, -4, 6, 2), arc(4, 0, 6, -4, 2, 4)} {
		gap := slices.Concat(oval[:3], []impl.Arc{last})
		for k, a := range gap {
			same(t, "ValidArc of "+shown(a), impl.ValidArc(a), true)
			checkInvalidOutline(t, slices.Concat(gap[k:], gap[:k]))
			same(t, "ValidOutline of a closed one", impl.ValidOutline(slices.Concat(oval[k:], oval[:k])), true)
		}
	}
	checkInvalidOutline(t, []impl.Arc{arc(0, 0, 5, 0, 0, 5), arc(0, 0, 0, 5, -5, 0)})
	checkInvalidOutline(t, []impl.Arc{arc(0, 0, 0, 5, -5, 0), arc(0, 0, 5, 0, 0, 5)})
	checkInvalidOutline(t, []impl.Arc{arc(0, 0, 5, 0, 0, 5), arc(0, 0, 5, 0, 0, 5)})
}

// told returns what checkOutline wants of a valid outline, by the definitions.
func told(list []impl.Arc) (corners []int64, area int64, box []int64, sharpest int64) {
	box = []int64{math.MaxInt64, math.MaxInt64, math.MinInt64, math.MinInt64}
	for _, a := range list {
		area += a.From.X*a.To.Y - a.To.X*a.From.Y
		box = []int64{min(box[0], a.From.X), min(box[1], a.From.Y), max(box[2], a.From.X), max(box[3], a.From.Y)}
	}
	for k, a := range list {
		if squareOf(a.Center, a.From).Cmp(squareOf(list[sharpest].Center, list[sharpest].From)) < 0 {
			sharpest = int64(k)
		}
	}
	return cornersIn(list), area, box, sharpest
}

func TestPromise6RandomOutlines(t *testing.T) {
	random := rand.New(rand.NewSource(34))
	seen := map[string]int{}
	for range 20000 {
		list := randomOutline(random, 2+random.Intn(15))
		if !isOutline(list) {
			t.Fatalf("%v is no outline", list)
		}
		corners, area, box, sharpest := told(list)
		checkOutline(t, list, corners, area, box, sharpest)
		last := int64(len(list) - 1)
		switch {
		case len(corners) == 0:
			seen["smooth"]++
		case len(corners) == 1 && corners[0] == 0:
			seen["only the first"]++
		case len(corners) == 1 && corners[0] == last:
			seen["only the last"]++
		case len(corners) == len(list):
			seen["all"]++
		case !slices.Contains(corners, 0):
			seen["not the first"]++
		case !slices.Contains(corners, last):
			seen["not the last"]++
		}
		for k, a := range list {
			same(t, "IsSmoothJoint of "+shown(list), impl.IsSmoothJoint(a, list[(k+1)%len(list)]), !slices.Contains(corners, int64(k)))
		}
	}
	for _, name := range []string{"smooth", "only the first", "only the last", "all", "not the first", "not the last"} {
		if seen[name] < 10 {
			t.Errorf("only %d outlines with corners: %s", seen[name], name)
		}
	}
}

func TestPromise6OutlinesTellTheirValue(t *testing.T) {
	half := []impl.Arc{arc(0, 0, 5, 0, -5, 0), arc(0, 0, -5, 0, 5, 0)}
	checkOutline(t, half, []int64{}, 0, []int64{-5, 0, 5, 0}, 0)
	lens := []impl.Arc{arc(0, 1, 5, 0, -5, 0), arc(0, 0, -5, 0, 5, 0)}
	checkOutline(t, lens, []int64{0, 1}, 0, []int64{-5, 0, 5, 0}, 1)

	oval, _ := impl.OvalOutline(1, 1)
	for k := range oval {
		bent := slices.Clone(oval)
		bent[k].Center = point(oval[k].Center.X*-3, oval[k].Center.Y*-3)
		next, before := int64(k), int64((k+3)%4)
		corners, area, box, sharpest := told(bent)
		same(t, fmt.Sprintf("corners behind arc %d is bent", k), corners, []int64{min(next, before), max(next, before)})
		checkOutline(t, bent, corners, area, box, sharpest)
	}
}

func TestPromise6CornersTellTheirValue(t *testing.T) {
	// A quarter circle, a small half circle from its end to its center, and one back to its beginning.
	drop := []impl.Arc{arc(0, 0, 4, 0, 0, 4), arc(0, 2, 0, 4, 0, 0), arc(2, 0, 0, 0, 4, 0)}
	checkOutline(t, drop, []int64{1}, 16, []int64{0, 0, 4, 4}, 1)
	checkOutline(t, slices.Concat(drop[1:], drop[:1]), []int64{0}, 16, []int64{0, 0, 4, 4}, 0)
	checkOutline(t, slices.Concat(drop[2:], drop[:2]), []int64{2}, 16, []int64{0, 0, 4, 4}, 0)
	for many := 2; many <= 16; many += 2 {
		all := make([]int64, many)
		for k := range all {
			all[k] = int64(k)
		}
		checkOutline(t, chainOf(many), all, 0, []int64{0, 0, 2, 0}, 0)
	}
}

func TestPromise6OutlinesAtTheLimits(t *testing.T) {
	wide := []impl.Arc{arc(0, 0, 100000, 100000, -100000, 100000), arc(0, 0, -100000, 100000, -100000, -100000), arc(0, 0, -100000, -100000, 100000, -100000), arc(0, 0, 100000, -100000, 100000, 100000)}
	checkOutline(t, wide, []int64{}, 80000000000, []int64{-100000, -100000, 100000, 100000}, 0)
	var twice []impl.Arc
	for range 4 {
		twice = append(twice, wide...)
	}
	checkOutline(t, twice, []int64{}, 320000000000, []int64{-100000, -100000, 100000, 100000}, 0)
	back, code := impl.MirrorOutline(twice)
	same(t, "MirrorOutline of the widest one", []any{len(back), code}, []any{16, int64(impl.OK)})
	checkOutline(t, back, []int64{}, 320000000000, []int64{-100000, -100000, 100000, 100000}, 0)

	for _, a := range []impl.Arc{arc(0, 100000, 1, 0, -1, 0), arc(0, -100000, 1, 0, -1, 0)} {
		b := arc(0, a.Center.Y, -1, 0, 1, 0)
		checkOutline(t, []impl.Arc{a, b}, []int64{}, 0, []int64{-1, 0, 1, 0}, 0)
		b.Center.Y = -a.Center.Y
		checkOutline(t, []impl.Arc{a, b}, []int64{0, 1}, 0, []int64{-1, 0, 1, 0}, 0)
		b.Center.Y = a.Center.Y / 100000 * 99999
		checkOutline(t, []impl.Arc{a, b}, []int64{0, 1}, 0, []int64{-1, 0, 1, 0}, 1)
		b.Center.Y = a.Center.Y / 100000 * 100001
		checkInvalidOutline(t, []impl.Arc{a, b})
		checkInvalidOutline(t, []impl.Arc{b, a})
	}
}
