package tests

import (
	"fmt"
	"math"
	"math/big"
	"math/rand"
	"slices"
	"testing"

	"loop.example/g01061/impl"
)

func neck(stop, body, over, angle int64) impl.Neck {
	return impl.Neck{Stop: stop, Body: body, Over: over, Angle: angle}
}

// violin is the neck of the document's example.
var violin = neck(1300, 1950, 60, 110)

// neckLimits are the least and the greatest values of the fields of a neck.
var neckLimits = [4][2]int64{{100, 10000}, {100, 10000}, {0, 500}, {0, 300}}

// around returns numbers at both ends of a range and near them.
func around(least, most int64) []int64 {
	return []int64{least - 2, least - 1, least, least + 1, most - 1, most, most + 1, most + 2}
}

// outside returns numbers just outside a range and far outside it.
func outside(least, most int64) []int64 {
	wrong := []int64{least - 2, least - 1, most + 1, most + 2, 2*most + 1}
	for _, n := range slices.Concat([]int64{-most, -1, 0}, beyond32) {
		if n < least {
			wrong = append(wrong, n)
		}
	}
	return append(wrong, 1<<32+1, math.MaxInt64-1, math.MaxInt64)
}

// isNeckIn reports whether a neck is valid by the definition.
func isNeckIn(x impl.Neck) bool {
	for k, n := range []int64{x.Stop, x.Body, x.Over, x.Angle} {
		if n < neckLimits[k][0] || n > neckLimits[k][1] {
			return false
		}
	}
	return true
}

// randomNeck has fields over their whole ranges, or those of a violin.
func randomNeck(random *rand.Rand) impl.Neck {
	if random.Intn(2) == 0 {
		return neck(1250+random.Int63n(100), 1900+random.Int63n(100), random.Int63n(120), 60+random.Int63n(100))
	}
	return neck(100+random.Int63n(9901), 100+random.Int63n(9901), random.Int63n(501), random.Int63n(301))
}

// quotientOf is DivRound of the product of two numbers, and a third one.
func quotientOf(a, b, c int64) int64 {
	return nearestOf(new(big.Int).Mul(big.NewInt(a), big.NewInt(b)), big.NewInt(c)).Int64()
}

// projectionOf is the projection of a neck with any angle.
func projectionOf(x impl.Neck, angle int64) int64 { return x.Over + quotientOf(x.Body, angle, 1000) }

// checkNeck checks what is told of a neck itself.
func checkNeck(t *testing.T, x impl.Neck, scale, ratio, projection int64) {
	t.Helper()
	name := fmt.Sprintf(" of %+v", x)
	same(t, "ValidNeck"+name, []bool{impl.ValidNeck(x), isNeckIn(x)}, []bool{true, true})
	got, code := impl.ScaleOf(x)
	same(t, "ScaleOf"+name, []int64{got, code}, []int64{scale, impl.OK})
	got, code = impl.StopRatio(x)
	same(t, "StopRatio"+name, []int64{got, code}, []int64{ratio, impl.OK})
	got, code = impl.ProjectionOf(x)
	same(t, "ProjectionOf"+name, []int64{got, code}, []int64{projection, impl.OK})
}

func checkNeckByDefinition(t *testing.T, x impl.Neck) {
	t.Helper()
	checkNeck(t, x, x.Stop+x.Body, quotientOf(1000, x.Stop, x.Body), projectionOf(x, x.Angle))
}

// checkInvalidNeck checks that a neck is as nothing, whatever else is wrong.
func checkInvalidNeck(t *testing.T, x impl.Neck) {
	t.Helper()
	name := " of " + shown(x)
	same(t, "ValidNeck"+name, []any{impl.ValidNeck(x), isNeckIn(x), impl.NeckText(x)}, []any{false, false, ""})
	check := func(function string, number, code int64) {
		t.Helper()
		same(t, function+name, []int64{number, code}, []int64{0, impl.ErrInvalid})
	}
	number, code := impl.ScaleOf(x)
	check("ScaleOf", number, code)
	number, code = impl.StopRatio(x)
	check("StopRatio", number, code)
	number, code = impl.ProjectionOf(x)
	check("ProjectionOf", number, code)
	for _, n := range []int64{math.MinInt64, -1, 0, 1, 1000, 1001, 2000, 2001, math.MaxInt64} {
		number, code = impl.AngleFor(x, n)
		check("AngleFor", number, code)
		for _, joint := range []int64{math.MinInt64, 0, 1, 1000, 1001, n} {
			number, code = impl.ShimFor(x, n, joint)
			check("ShimFor", number, code)
		}
		number, code = impl.StringAngle(x, n)
		check("StringAngle", number, code)
		number, code = impl.BridgeFor(x, n)
		check("BridgeFor", number, code)
	}
	checkInvalidNecks(t, []impl.Neck{x}, violin)
	checkInvalidNecks(t, nil, x)
}

// checkInvalidNecks checks that one wrong neck of a list, or a wrong one that is wanted, is seen
// ahead of all else that is wrong.
func checkInvalidNecks(t *testing.T, list []impl.Neck, want impl.Neck) {
	t.Helper()
	name := fmt.Sprintf(" of %d necks, %s and %s", len(list), shown(list), shown(want))
	index, gap, code := impl.NearestNeck(list, want)
	same(t, "NearestNeck"+name, []int64{index, gap, code}, []int64{0, 0, impl.ErrInvalid})
	if len(list) == 0 {
		return
	}
	for _, n := range []int64{math.MinInt64, -1, 0, 1000, 1001, 2000, 2001, math.MaxInt64} {
		set, code := impl.SetNecks(list, n, n)
		same(t, fmt.Sprintf("SetNecks%s with %d", name, n), []int64{int64(len(set)), code}, []int64{0, impl.ErrInvalid})
	}
}

func TestPromise11Constants(t *testing.T) {
	same(t, "MaxNeck", int64(impl.MaxNeck), int64(10000))
}

func TestPromise11ValidNeck(t *testing.T) {
	least, most := neck(100, 100, 0, 0), neck(10000, 10000, 500, 300)
	for field, limits := range neckLimits {
		for _, n := range slices.Concat(around(limits[0], limits[1]), outside(limits[0], limits[1])) {
			for _, x := range []impl.Neck{least, violin, most} {
				*[]*int64{&x.Stop, &x.Body, &x.Over, &x.Angle}[field] = n
				if limits[0] <= n && n <= limits[1] {
					checkNeckByDefinition(t, x)
				} else {
					checkInvalidNeck(t, x)
				}
			}
		}
	}
	checkInvalidNeck(t, impl.Neck{})
}

func TestPromise11Necks(t *testing.T) {
	random := rand.New(rand.NewSource(141))
	for range 20000 {
		checkNeckByDefinition(t, randomNeck(random))
	}
}

func TestPromise11NecksTellTheirValues(t *testing.T) {
	checkNeck(t, violin, 3250, 667, 275)
	checkNeck(t, neck(100, 100, 0, 0), 200, 1000, 0)
	checkNeck(t, neck(10000, 10000, 500, 300), 20000, 1000, 3500)
	checkNeck(t, neck(100, 10000, 0, 300), 10100, 10, 3000)
	checkNeck(t, neck(10000, 100, 500, 0), 10100, 100000, 500)
	// Ratios just at the half, just below it and just above it.
	checkNeck(t, neck(101, 2000, 0, 0), 2101, 51, 0)
	checkNeck(t, neck(103, 2000, 0, 0), 2103, 52, 0)
	checkNeck(t, neck(102, 2000, 0, 0), 2102, 51, 0)
	checkNeck(t, neck(1001, 2000, 0, 0), 3001, 501, 0)
	checkNeck(t, neck(100, 1999, 0, 0), 2099, 50, 0)
	checkNeck(t, neck(101, 2001, 0, 0), 2102, 50, 0)
	checkNeck(t, neck(101, 1999, 0, 0), 2100, 51, 0)
	// What Body and Angle give, just at the half and near it; Over is not rounded with it.
	checkNeck(t, neck(100, 500, 0, 1), 600, 200, 1)
	checkNeck(t, neck(100, 499, 0, 1), 599, 200, 0)
	checkNeck(t, neck(100, 501, 7, 1), 601, 200, 8)
	checkNeck(t, neck(100, 2500, 0, 1), 2600, 40, 3)
	checkNeck(t, neck(100, 2499, 0, 1), 2599, 40, 2)
	checkNeck(t, neck(100, 100, 0, 5), 200, 1000, 1)
	checkNeck(t, neck(100, 100, 0, 4), 200, 1000, 0)
	checkNeck(t, neck(100, 1950, 61, 110), 2050, 51, 276)
	checkNeck(t, neck(100, 1950, 60, 109), 2050, 51, 273)
	checkNeck(t, neck(100, 9995, 500, 300), 10095, 10, 3499)
	checkNeck(t, neck(100, 9998, 500, 300), 10098, 10, 3499)
	checkNeck(t, neck(100, 9999, 500, 300), 10099, 10, 3500)
}

func checkStopFor(t *testing.T, body, share, want, code int64) {
	t.Helper()
	stop, got := impl.StopFor(body, share)
	same(t, fmt.Sprintf("StopFor(%d, %d)", body, share), []int64{stop, got}, []int64{want, code})
}

func TestPromise11StopFor(t *testing.T) {
	checkStopFor(t, 1950, 667, 1301, impl.OK)
	checkStopFor(t, 1950, 1000, 1950, impl.OK)
	checkStopFor(t, 10000, 2000, 20000, impl.OK)
	checkStopFor(t, 10000, 1, 10, impl.OK)
	checkStopFor(t, 100, 2000, 200, impl.OK)
	// 0.1, 0.4, 0.499, 0.5, 0.6, 1.499, 1.5, 2.5, 2.499 and 19989.5.
	checkStopFor(t, 100, 1, 0, impl.OK)
	checkStopFor(t, 100, 4, 0, impl.OK)
	checkStopFor(t, 499, 1, 0, impl.OK)
	checkStopFor(t, 500, 1, 1, impl.OK)
	checkStopFor(t, 100, 6, 1, impl.OK)
	checkStopFor(t, 1499, 1, 1, impl.OK)
	checkStopFor(t, 1500, 1, 2, impl.OK)
	checkStopFor(t, 500, 5, 3, impl.OK)
	checkStopFor(t, 2499, 1, 2, impl.OK)
	checkStopFor(t, 10000, 1999, 19990, impl.OK)
	checkStopFor(t, 9500, 1999, 18991, impl.OK)
	random := rand.New(rand.NewSource(142))
	for range 20000 {
		body, share := 100+random.Int63n(9901), 1+random.Int63n(2000)
		checkStopFor(t, body, share, quotientOf(body, share, 1000), impl.OK)
	}
	for _, body := range outside(100, 10000) {
		for _, share := range []int64{0, 1, 667, 2000, 2001, body} {
			checkStopFor(t, body, share, 0, impl.ErrRange)
		}
	}
	for _, share := range outside(1, 2000) {
		for _, body := range []int64{99, 100, 1950, 10000, 10001, share} {
			checkStopFor(t, body, share, 0, impl.ErrRange)
		}
	}
}

func TestPromise11NeckTexts(t *testing.T) {
	random := rand.New(rand.NewSource(143))
	list := []impl.Neck{violin, neck(100, 100, 0, 0), neck(10000, 10000, 500, 300), neck(100, 10000, 0, 300), neck(10000, 100, 500, 0)}
	for range 1000 {
		list = append(list, randomNeck(random))
	}
	for _, x := range list {
		s := fmt.Sprintf("%d,%d,%d,%d", x.Stop, x.Body, x.Over, x.Angle)
		same(t, "NeckText", impl.NeckText(x), s)
		got, ok := impl.ReadNeck(s)
		same(t, "ReadNeck of "+s, []any{got, ok}, []any{x, true})
	}
}

// wrongNeckTexts are texts of no neck, many of them nearly canonical.
func wrongNeckTexts() []string {
	list := []string{
		"", "-", ",", ",,,", "1300", "1300,1950", "1300,1950,60", "1300,1950,60,", ",1950,60,110", "1300,,60,110", "1300,1950,60,110,", "1300,1950,60,110,0", "1300,1950,60,110 ", " 1300,1950,60,110",
		"1300, 1950,60,110", "1300 1950 60 110", "1300;1950;60;110", "1300/1950/60/110", "1300,1950,60,110\n", "01300,1950,60,110", "1300,1950,060,110", "1300,1950,00,110", "1300,1950,60,-0", "1300,1950,-0,110",
		"+1300,1950,60,110", "1300,1950,60,1e2", "1300,1950,60,110.0", "1300,0x79e,60,110", "a,1950,60,110", "a 1300,1950,60,110", "1300,1950,60,\u0669", "1300,1950,60,110\x00", "1300,1950,60,-", "-,1950,60,110", "{1300 1950 60 110}", "1_300,1950,60,110",
	}
	for field, limits := range neckLimits {
		for _, wrong := range outside(limits[0], limits[1]) {
			parts := []string{"1300", "1950", "60", "110"}
			parts[field] = fmt.Sprint(wrong)
			list = append(list, parts[0]+","+parts[1]+","+parts[2]+","+parts[3])
		}
	}
	return append(list, "1300,1950,60,18446744073709551726", "18446744073709552916,1950,60,110")
}

func TestPromise11ReadNeckRefuses(t *testing.T) {
	for _, s := range slices.Concat(texts, wrongNeckTexts()) {
		x, ok := impl.ReadNeck(s)
		same(t, fmt.Sprintf("ReadNeck(%s)", shown(s)), []any{x, ok}, []any{impl.Neck{}, false})
	}
}
