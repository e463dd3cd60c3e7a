package tests

import (
	"fmt"
	"math"
	"math/rand"
	"slices"
	"strings"
	"testing"

	"loop.example/g01061/impl"
)

// noThicks are numbers that are no thicknesses of a cell.
var noThicks = []int64{math.MinInt64, math.MinInt64 + 1, -200, -1, 0, 201, 202, 1 << 32, 1<<32 + 1, math.MaxInt64 - 1, math.MaxInt64}

// plateSizes are sizes of plates at the limits and between them.
var plateSizes = [][2]int{{1, 1}, {1, 2}, {2, 1}, {2, 2}, {1, 3}, {3, 1}, {2, 3}, {3, 2}, {3, 3}, {3, 4}, {4, 3}, {4, 4}, {5, 5}, {1, 10}, {10, 1}, {9, 10}, {10, 9}, {10, 10}}

// anyPlate has a random size, and few or many different thicknesses.
func anyPlate(random *rand.Rand) [][]int64 {
	kinds := []int64{1, 2, 3, 8, 40, 200}[random.Intn(6)]
	return randomGrid(random, 1+random.Intn(10), 1+random.Intn(10), 1+random.Int63n(201-kinds), kinds)
}

// isPlate reports whether a plate is valid by the definition.
func isPlate(plate [][]int64) bool {
	for _, row := range plate {
		if len(row) != len(plate[0]) || len(row) < 1 || len(row) > 10 || slices.Min(row) < 1 || slices.Max(row) > 200 {
			return false
		}
	}
	return 1 <= len(plate) && len(plate) <= 10
}

func sumOfCells(plate [][]int64) int64 {
	sum := int64(0)
	for _, s := range spotsOf(plate) {
		sum += s.height
	}
	return sum
}

func massIn(plate [][]int64, cell, density int64) int64 {
	return roundedOf(sumOfCells(plate)*cell*density, 10000)
}

func stiffsIn(plate [][]int64) []int64 {
	stiffs := make([]int64, len(plate))
	for _, s := range spotsOf(plate) {
		stiffs[s.row] += s.height * s.height * s.height
	}
	return stiffs
}

func checkMass(t *testing.T, plate [][]int64, cell, density, want, code int64) {
	t.Helper()
	mass, got := impl.PlateMass(plate, cell, density)
	same(t, fmt.Sprintf("PlateMass(%v, %d, %d)", plate, cell, density), []int64{mass, got}, []int64{want, code})
}

// checkStiff checks RowStiff, and the row that WeakestRow should tell of it.
func checkStiff(t *testing.T, plate [][]int64, want []int64) {
	t.Helper()
	stiffs, code := impl.RowStiff(plate)
	same(t, fmt.Sprintf("RowStiff(%v)", plate), []any{stiffs, code}, []any{want, int64(impl.OK)})
	row, stiff, code := impl.WeakestRow(plate)
	least := slices.Min(want)
	same(t, fmt.Sprintf("WeakestRow(%v)", plate), []int64{row, stiff, code}, []int64{int64(slices.Index(want, least)), least, impl.OK})
}

func checkPlateText(t *testing.T, plate [][]int64) {
	t.Helper()
	rows := make([]string, len(plate))
	for k, row := range plate {
		rows[k] = strings.ReplaceAll(strings.Trim(fmt.Sprint(row), "[]"), " ", ",")
	}
	s := strings.Join(rows, "/")
	same(t, "PlateText", impl.PlateText(plate), s)
	got, ok := impl.ReadPlate(s)
	same(t, "ReadPlate of "+s, []any{got, ok}, []any{plate, true})
}

// checkPlate checks the functions that tell something of a valid plate alone.
func checkPlate(t *testing.T, plate [][]int64) {
	t.Helper()
	same(t, fmt.Sprintf("ValidPlate(%v)", plate), []bool{impl.ValidPlate(plate), isPlate(plate)}, []bool{true, true})
	checkStiff(t, plate, stiffsIn(plate))
	checkPlateText(t, plate)
	checkMeans(t, plate)
}

// checkPlateFails checks that each function with a plate and these numbers returns a code, with
// nothing beside it.
func checkPlateFails(t *testing.T, plate [][]int64, cell, density, mass, by, least, row, step, want int64) {
	t.Helper()
	name := fmt.Sprintf(" of %s with cell %d, density %d, mass %d, by %d, least %d, row %d, step %d", shown(plate), cell, density, mass, by, least, row, step)
	check := func(function string, isZero bool, code int64) {
		t.Helper()
		same(t, function+name, []any{isZero, code}, []any{true, want})
	}
	heavy, code := impl.PlateMass(plate, cell, density)
	check("PlateMass", heavy == 0, code)
	thin, code := impl.ThinAll(plate, by, least)
	check("ThinAll", len(thin) == 0, code)
	much, code := impl.ThinTo(plate, cell, density, mass, least)
	check("ThinTo", much == 0, code)
	thin, code = impl.ScrapeRow(plate, row, by, least)
	check("ScrapeRow", len(thin) == 0, code)
	isEven, code := impl.EvenPlate(plate, step)
	check("EvenPlate", !isEven, code)
	places, code := impl.TooThin(plate, least)
	check("TooThin", len(places) == 0, code)
}

// checkInvalidPlate checks that a plate is as nothing, whatever else is wrong.
func checkInvalidPlate(t *testing.T, plate [][]int64) {
	t.Helper()
	name := " of " + shown(plate)
	same(t, "ValidPlate"+name, []any{impl.ValidPlate(plate), isPlate(plate), impl.PlateText(plate)}, []any{false, false, ""})
	check := func(function string, isZero bool, code int64) {
		t.Helper()
		same(t, function+name, []any{isZero, code}, []any{true, int64(impl.ErrInvalid)})
	}
	stiffs, code := impl.RowStiff(plate)
	check("RowStiff", len(stiffs) == 0, code)
	row, stiff, code := impl.WeakestRow(plate)
	check("WeakestRow", row == 0 && stiff == 0, code)
	edge, middle, code := impl.EdgeAndMiddle(plate)
	check("EdgeAndMiddle", edge == 0 && middle == 0, code)
	for _, other := range [][][]int64{{{7}}, evenGrid(3, 3, 7), plate, nil} {
		gap, code := impl.PlateGap(plate, other)
		check("PlateGap, first", gap == 0, code)
		gap, code = impl.PlateGap(other, plate)
		check("PlateGap, second", gap == 0, code)
	}
	checkPlateFails(t, plate, 100, 400, 1000, 2, 30, 0, 2, impl.ErrInvalid)
	for _, n := range []int64{math.MinInt64, -1, 0, 1, 200, 201, 10001, math.MaxInt64} {
		checkPlateFails(t, plate, n, n, n, n, n, n, n, impl.ErrInvalid)
	}
}

func TestPromise9Constants(t *testing.T) {
	same(t, "MaxRows and MaxPlate", []int64{impl.MaxRows, impl.MaxPlate}, []int64{10, 200})
}

func TestPromise9SizesOfPlates(t *testing.T) {
	for rows := range 13 {
		for columns := range 13 {
			plate := evenGrid(rows, columns, 30)
			if 1 <= rows && rows <= 10 && 1 <= columns && columns <= 10 {
				checkPlate(t, plate)
			} else {
				checkInvalidPlate(t, plate)
			}
		}
	}
	for _, plate := range [][][]int64{nil, {}, {nil}, {{}}, {{}, {}}, evenGrid(100000, 1, 7), evenGrid(1, 100000, 7), evenGrid(100000, 0, 7)} {
		checkInvalidPlate(t, plate)
	}
}

func TestPromise9RowsOfDifferentLengths(t *testing.T) {
	for _, size := range plateSizes {
		for row := range size[0] {
			for _, columns := range []int{0, 1, size[1] - 1, size[1] + 1, 10, 11} {
				plate := evenGrid(size[0], size[1], 7)
				plate[row] = slices.Repeat([]int64{7}, columns)
				if !isPlate(plate) {
					checkInvalidPlate(t, plate)
				}
			}
			plate := evenGrid(size[0], size[1], 7)
			plate[row] = nil
			checkInvalidPlate(t, plate)
		}
	}
	// As many cells as two rows of two, in rows that are not as long.
	checkInvalidPlate(t, [][]int64{{1, 2, 3}, {4}})
	checkInvalidPlate(t, [][]int64{{1}, {2, 3, 4}})
}

func TestPromise9ThicknessesAtTheLimits(t *testing.T) {
	for _, size := range plateSizes {
		plate := evenGrid(size[0], size[1], 7)
		for _, s := range spotsOf(plate) {
			for _, thick := range []int64{1, 2, 199, 200} {
				checkPlate(t, withHeight(plate, s.row, s.column, thick))
			}
			for _, thick := range noThicks {
				wrong := withHeight(plate, s.row, s.column, thick)
				same(t, fmt.Sprintf("ValidPlate(%v)", wrong), impl.ValidPlate(wrong), false)
			}
		}
		for _, thick := range noThicks {
			checkInvalidPlate(t, evenGrid(size[0], size[1], thick))
			checkInvalidPlate(t, withHeight(plate, 0, 0, thick))
			checkInvalidPlate(t, withHeight(plate, size[0]-1, size[1]-1, thick))
		}
	}
}

func TestPromise9RandomPlates(t *testing.T) {
	random := rand.New(rand.NewSource(111))
	for range 3000 {
		plate := anyPlate(random)
		checkPlate(t, plate)
		for _, cell := range []int64{1, 10000, 1 + random.Int63n(10000)} {
			for _, density := range []int64{1, 2000, 1 + random.Int63n(2000)} {
				checkMass(t, plate, cell, density, massIn(plate, cell, density), impl.OK)
			}
		}
	}
}

func TestPromise9MassTellsItsValue(t *testing.T) {
	plate := [][]int64{{30, 32}, {31, 33}}
	for _, c := range [][3]int64{
		{100, 400, 504}, {1, 1, 0}, {1, 39, 0}, {1, 40, 1}, {39, 1, 0}, {40, 1, 1}, {10000, 1, 126}, {1, 2000, 25}, {10000, 2000, 252000},
	} {
		checkMass(t, plate, c[0], c[1], c[2], impl.OK)
	}
	for _, c := range []struct {
		plate               [][]int64
		cell, density, want int64
	}{
		{[][]int64{{1}}, 1, 1, 0}, {[][]int64{{200}}, 1, 1, 0}, {[][]int64{{1}}, 10000, 2000, 2000}, {[][]int64{{200}}, 10000, 2000, 400000},
		{evenGrid(10, 10, 200), 10000, 2000, 40000000}, {evenGrid(10, 10, 200), 10000, 1999, 39980000}, {evenGrid(10, 10, 200), 9999, 2000, 39996000}, {evenGrid(10, 10, 1), 1, 1, 0},
		// The half is rounded away from 0, and what is just less is not.
		{[][]int64{{5}}, 1000, 1, 1}, {[][]int64{{5}}, 999, 1, 0}, {[][]int64{{5}}, 1, 1000, 1}, {[][]int64{{5}}, 1, 999, 0}, {[][]int64{{5}}, 1001, 1, 1}, {[][]int64{{2, 2}, {1, 10}}, 1000, 1, 2}, {[][]int64{{15}}, 1000, 1, 2}, {[][]int64{{25}}, 1000, 1, 3},
		{[][]int64{{3, 2}}, 1000, 1, 1}, {[][]int64{{3}, {2}}, 1000, 1, 1}, {[][]int64{{3, 1}}, 1000, 1, 0},
		{evenGrid(10, 10, 50), 1, 1, 1}, {withHeight(evenGrid(10, 10, 50), 4, 4, 49), 1, 1, 0}, {withHeight(evenGrid(10, 10, 50), 9, 9, 51), 1, 1, 1},
	} {
		checkMass(t, c.plate, c.cell, c.density, c.want, impl.OK)
	}
}

func TestPromise9CellsAndDensitiesAtTheLimits(t *testing.T) {
	plate := [][]int64{{30, 32}, {31, 33}}
	for _, cell := range []int64{1, 2, 9999, 10000} {
		for _, density := range []int64{1, 2, 1999, 2000} {
			checkMass(t, plate, cell, density, massIn(plate, cell, density), impl.OK)
			checkThinTo(t, plate, cell, density, 1000000000, 30)
		}
	}
	for _, wrong := range []int64{math.MinInt64, -1, 0, 10001, 1 << 32, math.MaxInt64} {
		checkMass(t, plate, wrong, 400, 0, impl.ErrRange)
		checkThinToFails(t, plate, wrong, 400, 1000, 30, impl.ErrRange)
	}
	for _, wrong := range []int64{math.MinInt64, -1, 0, 2001, 10000, 1 << 32, math.MaxInt64} {
		checkMass(t, plate, 100, wrong, 0, impl.ErrRange)
		checkThinToFails(t, plate, 100, wrong, 1000, 30, impl.ErrRange)
	}
}

func TestPromise9StiffnessTellsItsValue(t *testing.T) {
	for _, c := range []struct {
		plate [][]int64
		want  []int64
	}{
		{[][]int64{{3}}, []int64{27}}, {[][]int64{{1}}, []int64{1}}, {[][]int64{{200}}, []int64{8000000}}, {[][]int64{{30, 32}, {31, 33}}, []int64{59768, 65728}}, {[][]int64{{31, 33}, {30, 32}}, []int64{65728, 59768}},
		{evenGrid(10, 10, 200), slices.Repeat([]int64{80000000}, 10)}, {evenGrid(10, 10, 1), slices.Repeat([]int64{10}, 10)}, {[][]int64{{1, 2, 3}}, []int64{36}}, {[][]int64{{1}, {2}, {3}}, []int64{1, 8, 27}},
		// The first one of several rows that are the weakest.
		{[][]int64{{9}, {2}, {3}, {2}}, []int64{729, 8, 27, 8}}, {[][]int64{{1, 2}, {2, 1}}, []int64{9, 9}}, {[][]int64{{3, 3}, {2, 1}, {1, 2}, {9, 1}}, []int64{54, 9, 9, 730}},
		// A row of more wood may be weaker.
		{[][]int64{{4, 4, 4}, {1, 1, 6}}, []int64{192, 218}}, {[][]int64{{1, 1, 6}, {4, 4, 4}}, []int64{218, 192}},
		// The sums of cubes of 1 and 12, and of 9 and 10, are the same.
		{[][]int64{{9, 10}, {1, 12}}, []int64{1729, 1729}}, {[][]int64{{200, 200}, {9, 10}, {1, 12}}, []int64{16000000, 1729, 1729}},
		{withHeight(evenGrid(10, 1, 5), 9, 0, 4), []int64{125, 125, 125, 125, 125, 125, 125, 125, 125, 64}},
	} {
		checkStiff(t, c.plate, c.want)
	}
}

// wrongPlateTexts are texts of no plate, many of them nearly canonical.
func wrongPlateTexts() []string {
	list := []string{
		"", "/", "-", "30/", "/30", "30//31", "30/-", "-/30", "-/-", "30,32/31", "30/31,33", "30,/31,33", ",30/31,33", "30,,32/31,33", "30,32/31,33/", "/30,32/31,33", "30,32//31,33",
		"30,32 /31,33", "30,32/ 31,33", " 30,32/31,33", "30,32/31,33 ", "30,32/31,33\n", "30, 32/31,33", "30 32/31 33", "30;32/31;33", "30,32\\31,33", "30,32|31,33", "30,32\n31,33", "[[30 32] [31 33]]",
		"030,32/31,33", "30,32/31,033", "+30,32/31,33", "30,32/31,3e1", "0x1e", "30.0", "x", "30,x/31,33", "30,32/31,33/x", "30,\u0663/31,33", "30,32\u2044" + "31,33", "30\x00", "30,32/31,33\x00", "1_0",
		strings.Repeat("30/", 10) + "30", strings.Repeat("30,", 10) + "30", strings.Repeat("30/", 9), strings.Repeat("30/", 1000) + "30", strings.Repeat("30,", 100000) + "30", strings.Repeat("/", 100000),
	}
	for _, wrong := range []string{"0", "-0", "-1", "201", "1000000000000", "1000000000001", "9223372036854775808", "18446744073709551617"} {
		list = append(list, wrong, wrong+",32/31,33", "30,"+wrong+"/31,33", "30,32/"+wrong+",33", "30,32/31,"+wrong)
	}
	return list
}

func TestPromise9ReadPlateRefuses(t *testing.T) {
	for _, s := range wrongPlateTexts() {
		plate, ok := impl.ReadPlate(s)
		same(t, "ReadPlate of "+shown(s), []any{len(plate), ok}, []any{0, false})
	}
	for _, s := range texts {
		plate, ok := impl.ReadPlate(s)
		same(t, "whether ReadPlate reads what is written of "+shown(s), ok, len(plate) > 0 && impl.PlateText(plate) == s)
	}
}

func TestPromise9PlateTextsTellTheirValue(t *testing.T) {
	for s, plate := range map[string][][]int64{
		"30,32/31,33": {{30, 32}, {31, 33}}, "1": {{1}}, "200": {{200}}, "1,200": {{1, 200}}, "1/200": {{1}, {200}}, "7,7,7/8,8,8": {{7, 7, 7}, {8, 8, 8}},
		strings.Repeat("200,", 9) + "200": evenGrid(1, 10, 200), strings.Repeat("200/", 9) + "200": evenGrid(10, 1, 200),
	} {
		same(t, "PlateText", impl.PlateText(plate), s)
		got, ok := impl.ReadPlate(s)
		same(t, "ReadPlate of "+s, []any{got, ok}, []any{plate, true})
	}
}

func TestPromise9OrderOfErrors(t *testing.T) {
	good := [][]int64{{30, 32}, {31, 33}}
	for _, n := range []int64{math.MinInt64, math.MinInt64 + 1, -1, 1000000001, math.MaxInt64 - 1, math.MaxInt64} {
		for _, plate := range [][][]int64{good, {{1}}, evenGrid(10, 10, 200)} {
			checkPlateFails(t, plate, n, n, n, n, n, n, n, impl.ErrRange)
		}
		checkPlateFails(t, [][]int64{{0}}, n, n, n, n, n, n, n, impl.ErrInvalid)
		checkPlateFails(t, nil, n, n, n, n, n, n, n, impl.ErrInvalid)
	}
}
