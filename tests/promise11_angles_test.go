package tests

import (
	"fmt"
	"math/rand"
	"testing"

	"loop.example/g01061/impl"
)

// leastOf returns the least number from 0 to most that is enough, by trying one after the other,
// and the code beside it.
func leastOf(most int64, isEnough func(n int64) bool) []int64 {
	for n := range most + 1 {
		if isEnough(n) {
			return []int64{n, impl.OK}
		}
	}
	return []int64{0, impl.ErrNotFound}
}

// angleWith is the angle of a neck with a shim.
func angleWith(x impl.Neck, shim, joint int64) int64 { return x.Angle + quotientOf(1000, shim, joint) }

// checkAngle checks an angle that is told, and that it is just enough.
func checkAngle(t *testing.T, x impl.Neck, height, want, code int64) {
	t.Helper()
	name := fmt.Sprintf("AngleFor(%+v, %d)", x, height)
	angle, got := impl.AngleFor(x, height)
	same(t, name, []int64{angle, got}, []int64{want, code})
	if got != impl.OK {
		return
	}
	x.Angle = angle
	projection, code := impl.ProjectionOf(x)
	same(t, name+" is enough", []any{projection >= height, code}, []any{true, int64(impl.OK)})
	if angle > 0 {
		x.Angle--
		projection, code = impl.ProjectionOf(x)
		same(t, name+" is just enough", []any{projection < height, code}, []any{true, int64(impl.OK)})
	}
}

func checkAngleByDefinition(t *testing.T, x impl.Neck, height int64) int64 {
	t.Helper()
	want := leastOf(300, func(angle int64) bool { return projectionOf(x, angle) >= height })
	checkAngle(t, x, height, want[0], want[1])
	return want[1]
}

// randomHeight is a height over its whole range, or one near a projection.
func randomHeight(random *rand.Rand, projection int64) int64 {
	if random.Intn(2) == 0 {
		return random.Int63n(2001)
	}
	return min(2000, max(0, projection+random.Int63n(5)-2))
}

// checkSeen checks that enough tests had each of the codes.
func checkSeen(t *testing.T, seen map[int64]int, least int) {
	t.Helper()
	if seen[impl.OK] < least || seen[impl.ErrNotFound] < least {
		t.Errorf("too few tests of a kind: %v", seen)
	}
}

func TestPromise11AnglesAreJustEnough(t *testing.T) {
	random := rand.New(rand.NewSource(144))
	seen := map[int64]int{}
	for range 3000 {
		x := randomNeck(random)
		for _, angle := range []int64{0, x.Angle, random.Int63n(301), 300} {
			seen[checkAngleByDefinition(t, x, randomHeight(random, projectionOf(x, angle)))]++
		}
		checkAngleByDefinition(t, x, 0)
		checkAngleByDefinition(t, x, 2000)
	}
	checkSeen(t, seen, 1000)
	// All heights: those that each angle reaches, and those that none does.
	for height := range int64(2001) {
		checkAngleByDefinition(t, violin, height)
		checkAngleByDefinition(t, neck(100, 5000, 500, 7), height)
	}
}

func TestPromise11AngleForTellsItsValue(t *testing.T) {
	for _, c := range []struct {
		x                  impl.Neck
		height, want, code int64
	}{
		{violin, 280, 113, impl.OK}, {violin, 275, 110, impl.OK}, {violin, 276, 111, impl.OK}, {violin, 274, 110, impl.OK}, {violin, 273, 109, impl.OK},
		// The angle 0 is enough up to Over, 300 up to 60 and 585.
		{violin, 0, 0, impl.OK}, {violin, 60, 0, impl.OK}, {violin, 61, 1, impl.OK}, {violin, 62, 1, impl.OK}, {violin, 63, 2, impl.OK}, {violin, 645, 300, impl.OK}, {violin, 644, 300, impl.OK}, {violin, 643, 299, impl.OK}, {violin, 646, 0, impl.ErrNotFound}, {violin, 2000, 0, impl.ErrNotFound},
		// A neck's own angle does not matter.
		{neck(1300, 1950, 60, 0), 280, 113, impl.OK}, {neck(1300, 1950, 60, 300), 280, 113, impl.OK}, {neck(1300, 1950, 60, 300), 60, 0, impl.OK}, {neck(1300, 1950, 60, 300), 646, 0, impl.ErrNotFound}, {neck(100, 1950, 60, 300), 280, 113, impl.OK}, {neck(10000, 1950, 60, 300), 280, 113, impl.OK},
		// At the half, the projection is rounded up: 500 gives 1 at the angle 1, and 499 at the angle 2.
		{neck(100, 500, 0, 0), 1, 1, impl.OK}, {neck(100, 499, 0, 0), 1, 2, impl.OK}, {neck(100, 100, 0, 0), 1, 5, impl.OK}, {neck(100, 100, 0, 0), 30, 295, impl.OK}, {neck(100, 100, 0, 0), 31, 0, impl.ErrNotFound}, {neck(100, 105, 0, 0), 32, 300, impl.OK}, {neck(100, 104, 0, 0), 32, 0, impl.ErrNotFound},
		{neck(100, 5000, 500, 0), 2000, 300, impl.OK}, {neck(100, 5000, 499, 0), 2000, 0, impl.ErrNotFound}, {neck(100, 5000, 499, 0), 1999, 300, impl.OK}, {neck(100, 10000, 0, 0), 2000, 200, impl.OK}, {neck(100, 10000, 500, 0), 2000, 150, impl.OK}, {neck(100, 10000, 500, 0), 500, 0, impl.OK}, {neck(100, 10000, 500, 0), 501, 1, impl.OK}, {neck(100, 10000, 0, 0), 0, 0, impl.OK}, {neck(100, 10000, 0, 0), 1, 1, impl.OK},
	} {
		checkAngle(t, c.x, c.height, c.want, c.code)
	}
	for _, height := range outside(0, 2000) {
		for _, x := range []impl.Neck{violin, neck(100, 100, 0, 0), neck(10000, 10000, 500, 300)} {
			checkAngle(t, x, height, 0, impl.ErrRange)
		}
	}
}

// checkShim checks a shim that is told, and that it is just enough.
func checkShim(t *testing.T, x impl.Neck, height, joint, want, code int64) {
	t.Helper()
	name := fmt.Sprintf("ShimFor(%+v, %d, %d)", x, height, joint)
	shim, got := impl.ShimFor(x, height, joint)
	same(t, name, []int64{shim, got}, []int64{want, code})
	if got != impl.OK {
		return
	}
	same(t, name+" is enough", projectionOf(x, angleWith(x, shim, joint)) >= height, true)
	if shim > 0 {
		same(t, name+" is just enough", projectionOf(x, angleWith(x, shim-1, joint)) < height, true)
	}
}

func checkShimByDefinition(t *testing.T, x impl.Neck, height, joint int64) int64 {
	t.Helper()
	want := leastOf(200, func(shim int64) bool { return projectionOf(x, angleWith(x, shim, joint)) >= height })
	checkShim(t, x, height, joint, want[0], want[1])
	return want[1]
}

func TestPromise11ShimsAreJustEnough(t *testing.T) {
	random := rand.New(rand.NewSource(145))
	seen := map[int64]int{}
	for range 3000 {
		x := randomNeck(random)
		joint := 1 + random.Int63n([]int64{20, 300, 1000}[random.Intn(3)])
		for _, shim := range []int64{0, random.Int63n(201), 200} {
			height := randomHeight(random, projectionOf(x, angleWith(x, shim, joint)))
			seen[checkShimByDefinition(t, x, height, joint)]++
		}
		for _, edge := range []int64{1, joint, 1000} {
			checkShimByDefinition(t, x, 0, edge)
			checkShimByDefinition(t, x, 2000, edge)
		}
	}
	checkSeen(t, seen, 500)
	for height := range int64(2001) {
		checkShimByDefinition(t, neck(1300, 1000, 60, 0), height, 80)
		checkShimByDefinition(t, violin, height, 200)
	}
}

func TestPromise11ShimForTellsItsValue(t *testing.T) {
	// With a Body of 1000, the projection is the Angle.
	flat := neck(100, 1000, 0, 0)
	steep := neck(100, 1000, 0, 300)
	for _, c := range []struct {
		x                         impl.Neck
		height, joint, want, code int64
	}{
		{violin, 280, 200, 1, impl.OK}, {violin, 284, 200, 1, impl.OK}, {violin, 285, 200, 2, impl.OK}, {violin, 275, 200, 0, impl.OK}, {violin, 276, 200, 1, impl.OK}, {violin, 0, 200, 0, impl.OK}, {violin, 0, 1, 0, impl.OK}, {violin, 2000, 200, 177, impl.OK}, {violin, 2000, 1, 1, impl.OK},
		// With a joint of 1000, a shim adds as much as it is.
		{flat, 0, 1000, 0, impl.OK}, {flat, 1, 1000, 1, impl.OK}, {flat, 200, 1000, 200, impl.OK}, {flat, 199, 1000, 199, impl.OK}, {flat, 201, 1000, 0, impl.ErrNotFound}, {flat, 2000, 1000, 0, impl.ErrNotFound}, {neck(100, 1000, 0, 110), 310, 1000, 200, impl.OK}, {neck(100, 1000, 0, 110), 311, 1000, 0, impl.ErrNotFound}, {neck(100, 1000, 500, 0), 500, 1000, 0, impl.OK}, {neck(100, 1000, 500, 0), 700, 1000, 200, impl.OK}, {neck(100, 1000, 500, 0), 701, 1000, 0, impl.ErrNotFound},
		// A joint of 80 adds 12.5, 25 and 37.5, which are rounded to 13, 25 and 38, one of 16 adds 62.5, and one of 3 adds 333.3 and 666.7.
		{flat, 13, 80, 1, impl.OK}, {flat, 12, 80, 1, impl.OK}, {flat, 14, 80, 2, impl.OK}, {flat, 25, 80, 2, impl.OK}, {flat, 26, 80, 3, impl.OK}, {flat, 38, 80, 3, impl.OK}, {flat, 39, 80, 4, impl.OK}, {flat, 2000, 80, 160, impl.OK}, {flat, 63, 16, 1, impl.OK}, {flat, 64, 16, 2, impl.OK}, {flat, 333, 3, 1, impl.OK}, {flat, 334, 3, 2, impl.OK}, {flat, 667, 3, 2, impl.OK}, {flat, 668, 3, 3, impl.OK}, {flat, 1000, 1, 1, impl.OK}, {flat, 1001, 1, 2, impl.OK}, {flat, 2000, 1, 2, impl.OK},
		// A joint of 995 adds 99.497 and 100.503.
		{flat, 99, 995, 99, impl.OK}, {flat, 100, 995, 100, impl.OK}, {flat, 101, 995, 100, impl.OK}, {flat, 102, 995, 101, impl.OK}, {flat, 201, 995, 200, impl.OK}, {flat, 202, 995, 0, impl.ErrNotFound},
		// The angle becomes greater than 300.
		{steep, 300, 1000, 0, impl.OK}, {steep, 301, 1000, 1, impl.OK}, {steep, 500, 1000, 200, impl.OK}, {steep, 501, 1000, 0, impl.ErrNotFound}, {steep, 2000, 100, 170, impl.OK}, {steep, 2000, 117, 199, impl.OK}, {steep, 2000, 118, 0, impl.ErrNotFound}, {neck(100, 100, 0, 300), 2000, 1, 20, impl.OK}, {neck(100, 100, 0, 300), 2000, 10, 197, impl.OK}, {neck(100, 100, 0, 300), 2000, 11, 0, impl.ErrNotFound}, {neck(10000, 10000, 500, 300), 2000, 1, 0, impl.OK}, {neck(10000, 10000, 500, 300), 2000, 1000, 0, impl.OK},
		// First what the shim adds is rounded, and then what Body and Angle give.
		{neck(100, 500, 0, 0), 1, 800, 1, impl.OK}, {neck(100, 500, 0, 0), 2, 800, 2, impl.OK}, {neck(100, 499, 0, 0), 1, 800, 2, impl.OK}, {neck(100, 499, 0, 0), 1, 600, 1, impl.OK}, {neck(100, 10000, 0, 0), 10, 1000, 1, impl.OK}, {neck(100, 10000, 0, 0), 11, 1000, 2, impl.OK}, {neck(100, 10000, 0, 0), 10, 667, 1, impl.OK}, {neck(100, 10000, 0, 0), 11, 667, 2, impl.OK}, {neck(100, 10000, 0, 0), 20, 666, 1, impl.OK}, {neck(100, 10000, 0, 0), 30, 666, 2, impl.OK},
	} {
		checkShim(t, c.x, c.height, c.joint, c.want, c.code)
	}
	for _, x := range []impl.Neck{violin, flat, neck(10000, 10000, 500, 300)} {
		for _, height := range outside(0, 2000) {
			for _, joint := range []int64{0, 1, 200, 1000, 1001, height} {
				checkShim(t, x, height, joint, 0, impl.ErrRange)
			}
		}
		for _, joint := range outside(1, 1000) {
			for _, height := range []int64{-1, 0, 280, 2000, 2001} {
				checkShim(t, x, height, joint, 0, impl.ErrRange)
			}
		}
	}
}

func checkStringAngle(t *testing.T, x impl.Neck, bridge, want, code int64) {
	t.Helper()
	angle, got := impl.StringAngle(x, bridge)
	same(t, fmt.Sprintf("StringAngle(%+v, %d)", x, bridge), []int64{angle, got}, []int64{want, code})
}

func TestPromise11StringAngles(t *testing.T) {
	random := rand.New(rand.NewSource(146))
	for range 5000 {
		x := randomNeck(random)
		for _, bridge := range []int64{0, 2000, random.Int63n(2001), randomHeight(random, projectionOf(x, x.Angle))} {
			checkStringAngle(t, x, bridge, quotientOf(1000, bridge-projectionOf(x, x.Angle), x.Stop+x.Body), impl.OK)
		}
	}
}

func TestPromise11StringAngleTellsItsValue(t *testing.T) {
	// A scale of 2000 and a projection of 100: each odd difference is just at the half.
	even := neck(1000, 1000, 0, 100)
	for _, c := range []struct {
		x            impl.Neck
		bridge, want int64
	}{
		{violin, 330, 17}, {violin, 275, 0}, {violin, 276, 0}, {violin, 274, 0}, {violin, 277, 1}, {violin, 273, -1}, {violin, 0, -85}, {violin, 2000, 531},
		{even, 100, 0}, {even, 101, 1}, {even, 99, -1}, {even, 102, 1}, {even, 98, -1}, {even, 103, 2}, {even, 97, -2}, {even, 104, 2}, {even, 96, -2}, {even, 0, -50}, {even, 1, -50}, {even, 2, -49}, {even, 3, -49}, {even, 2000, 950}, {even, 1999, 950}, {even, 1998, 949},
		// A scale of 2001 is just below the half, one of 1999 just above it.
		{neck(1001, 1000, 0, 100), 101, 0}, {neck(1001, 1000, 0, 100), 99, 0}, {neck(999, 1000, 0, 100), 101, 1}, {neck(999, 1000, 0, 100), 99, -1}, {neck(1001, 1000, 0, 100), 103, 1}, {neck(1001, 1000, 0, 100), 97, -1}, {neck(999, 1000, 0, 100), 103, 2}, {neck(999, 1000, 0, 100), 97, -2},
		{neck(100, 100, 0, 0), 0, 0}, {neck(100, 100, 0, 0), 2000, 10000}, {neck(100, 100, 0, 0), 1, 5}, {neck(100, 10000, 500, 300), 0, -347}, {neck(10000, 10000, 500, 300), 0, -175}, {neck(10000, 10000, 500, 300), 2000, -75}, {neck(100, 100, 500, 300), 0, -2650},
	} {
		checkStringAngle(t, c.x, c.bridge, c.want, impl.OK)
	}
	for _, bridge := range outside(0, 2000) {
		for _, x := range []impl.Neck{violin, even, neck(10000, 10000, 500, 300)} {
			checkStringAngle(t, x, bridge, 0, impl.ErrRange)
		}
	}
}

// checkBridge checks a bridge that is told, and that it is just enough.
func checkBridge(t *testing.T, x impl.Neck, gap, want, code int64) {
	t.Helper()
	name := fmt.Sprintf("BridgeFor(%+v, %d)", x, gap)
	bridge, got := impl.BridgeFor(x, gap)
	same(t, name, []int64{bridge, got}, []int64{want, code})
	if got != impl.OK {
		return
	}
	projection, code := impl.ProjectionOf(x)
	same(t, name+" is just enough", []any{bridge-projection >= gap, bridge == 0 || bridge-1-projection < gap, code}, []any{true, true, int64(impl.OK)})
}

func TestPromise11BridgesAreJustEnough(t *testing.T) {
	random := rand.New(rand.NewSource(147))
	seen := map[int64]int{}
	for range 5000 {
		x := randomNeck(random)
		projection := projectionOf(x, x.Angle)
		for _, gap := range []int64{0, 1000, random.Int63n(1001), 2000 - projection, 2001 - projection} {
			if 0 <= gap && gap <= 1000 {
				want := leastOf(2000, func(bridge int64) bool { return bridge-projection >= gap })
				checkBridge(t, x, gap, want[0], want[1])
				seen[want[1]]++
			}
		}
	}
	checkSeen(t, seen, 1000)
}

func TestPromise11BridgeForTellsItsValue(t *testing.T) {
	high := neck(100, 5000, 400, 300) // with a projection of 1900
	for _, c := range []struct {
		x               impl.Neck
		gap, want, code int64
	}{
		{violin, 55, 330, impl.OK}, {violin, 0, 275, impl.OK}, {violin, 1, 276, impl.OK}, {violin, 1000, 1275, impl.OK}, {neck(100, 100, 0, 0), 0, 0, impl.OK}, {neck(100, 100, 0, 0), 1, 1, impl.OK}, {neck(100, 100, 0, 0), 1000, 1000, impl.OK}, {neck(100, 100, 0, 4), 0, 0, impl.OK}, {neck(100, 100, 0, 5), 0, 1, impl.OK}, {neck(100, 100, 0, 5), 1000, 1001, impl.OK},
		{high, 0, 1900, impl.OK}, {high, 99, 1999, impl.OK}, {high, 100, 2000, impl.OK}, {high, 101, 0, impl.ErrNotFound}, {high, 1000, 0, impl.ErrNotFound},
		{neck(100, 5000, 500, 300), 0, 2000, impl.OK}, {neck(100, 5000, 500, 300), 1, 0, impl.ErrNotFound}, {neck(100, 5005, 500, 300), 0, 0, impl.ErrNotFound}, {neck(100, 10000, 500, 300), 0, 0, impl.ErrNotFound}, {neck(100, 10000, 0, 100), 1000, 2000, impl.OK}, {neck(100, 10000, 1, 100), 1000, 0, impl.ErrNotFound}, {neck(100, 10000, 1, 100), 999, 2000, impl.OK},
	} {
		checkBridge(t, c.x, c.gap, c.want, c.code)
	}
	for _, gap := range outside(0, 1000) {
		for _, x := range []impl.Neck{violin, neck(100, 100, 0, 0), high, neck(10000, 10000, 500, 300)} {
			checkBridge(t, x, gap, 0, impl.ErrRange)
		}
	}
}
