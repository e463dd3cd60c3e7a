package tests

import (
	"fmt"
	"math"
	"math/rand"
	"testing"

	"loop.example/g01061/impl"
)

// thinnedIn returns what is left of a thickness, tenth by tenth.
func thinnedIn(thick, by, least int64) int64 {
	for range by {
		if thick > least {
			thick--
		}
	}
	return thick
}

// thinIn returns a plate all cells of which became thinner.
func thinIn(plate [][]int64, by, least int64) [][]int64 {
	thin := cloneGrid(plate)
	for _, s := range spotsOf(plate) {
		thin[s.row][s.column] = thinnedIn(s.height, by, least)
	}
	return thin
}

func checkThinAll(t *testing.T, plate [][]int64, by, least int64, want [][]int64, code int64) {
	t.Helper()
	thin, got := impl.ThinAll(plate, by, least)
	same(t, fmt.Sprintf("ThinAll(%v, %d, %d)", plate, by, least), []any{fmt.Sprint(thin), got}, []any{fmt.Sprint(want), code})
}

func checkScrape(t *testing.T, plate [][]int64, row, by, least int64, want [][]int64, code int64) {
	t.Helper()
	thin, got := impl.ScrapeRow(plate, row, by, least)
	same(t, fmt.Sprintf("ScrapeRow(%v, %d, %d, %d)", plate, row, by, least), []any{fmt.Sprint(thin), got}, []any{fmt.Sprint(want), code})
}

// checkScrapes checks ScrapeRow of all rows, and of rows that there are not.
func checkScrapes(t *testing.T, plate [][]int64, by, least int64) {
	t.Helper()
	thin := thinIn(plate, by, least)
	for row := range plate {
		want := cloneGrid(plate)
		want[row] = thin[row]
		checkScrape(t, plate, int64(row), by, least, want, impl.OK)
	}
	rows := int64(len(plate))
	for _, row := range []int64{math.MinInt64, -rows, -1, rows, rows + 1, 10, 1 << 32, math.MaxInt64} {
		checkScrape(t, plate, row, by, least, nil, impl.ErrRange)
	}
}

// checkThinTo checks ThinTo by trying by how much a plate must become thinner.
func checkThinTo(t *testing.T, plate [][]int64, cell, density, mass, least int64) {
	t.Helper()
	for by := range int64(201) {
		if massIn(thinIn(plate, by, least), cell, density) <= mass {
			checkThinToTells(t, plate, cell, density, mass, least, by)
			return
		}
	}
	checkThinToFails(t, plate, cell, density, mass, least, impl.ErrNotFound)
}

func checkThinToTells(t *testing.T, plate [][]int64, cell, density, mass, least, want int64) {
	t.Helper()
	by, code := impl.ThinTo(plate, cell, density, mass, least)
	same(t, fmt.Sprintf("ThinTo(%v, %d, %d, %d, %d)", plate, cell, density, mass, least), []int64{by, code}, []int64{want, impl.OK})
}

func checkThinToFails(t *testing.T, plate [][]int64, cell, density, mass, least, code int64) {
	t.Helper()
	by, got := impl.ThinTo(plate, cell, density, mass, least)
	same(t, fmt.Sprintf("ThinTo(%v, %d, %d, %d, %d)", plate, cell, density, mass, least), []int64{by, got}, []int64{0, code})
}

// checkTooThin checks TooThin by the definition.
func checkTooThin(t *testing.T, plate [][]int64, least int64) {
	t.Helper()
	want := [][]int64{}
	for _, s := range spotsOf(plate) {
		if s.height < least {
			want = append(want, []int64{int64(s.row), int64(s.column)})
		}
	}
	checkTooThinTells(t, plate, least, want, impl.OK)
}

func checkTooThinTells(t *testing.T, plate [][]int64, least int64, want [][]int64, code int64) {
	t.Helper()
	thin, got := impl.TooThin(plate, least)
	same(t, fmt.Sprintf("TooThin(%v, %d)", plate, least), []any{fmt.Sprint(thin), got}, []any{fmt.Sprint(want), code})
}

func TestPromise9ThinnerPlatesAreNoHeavier(t *testing.T) {
	random := rand.New(rand.NewSource(112))
	for range 300 {
		plate, least := anyPlate(random), 1+random.Int63n(200)
		cell, density := 1+random.Int63n(10000), 1+random.Int63n(2000)
		before, _ := impl.PlateMass(plate, cell, density)
		thicker := plate
		for by := range int64(201) {
			thin, code := impl.ThinAll(plate, by, least)
			mass, _ := impl.PlateMass(thin, cell, density)
			name := fmt.Sprintf("%v, %d thinner, but not than %d", plate, by, least)
			same(t, name, []any{code, mass <= before, impl.ValidPlate(thin)}, []any{int64(impl.OK), true, true})
			for _, s := range spotsOf(thin) {
				if was := plate[s.row][s.column]; s.height > thicker[s.row][s.column] || s.height < min(was, least) {
					t.Errorf("%s: the cell %d, %d is %d", name, s.row, s.column, s.height)
				}
			}
			row := random.Int63n(int64(len(plate)))
			scraped, code := impl.ScrapeRow(plate, row, by, least)
			scrapedMass, _ := impl.PlateMass(scraped, cell, density)
			whole, _ := impl.PlateMass(plate, cell, density)
			same(t, name+" in a row", []any{code, mass <= scrapedMass, scrapedMass <= whole}, []any{int64(impl.OK), true, true})
			before, thicker = mass, thin
		}
	}
}

func TestPromise9ThinningOfRandomPlates(t *testing.T) {
	random := rand.New(rand.NewSource(113))
	for range 300 {
		plate := anyPlate(random)
		thinnest, thickest := ends(plate)
		for _, by := range []int64{0, 1, thickest - thinnest, 199, 200, random.Int63n(201)} {
			for _, least := range []int64{1, thinnest, min(200, thickest+1), 200, 1 + random.Int63n(200)} {
				checkThinAll(t, plate, by, least, thinIn(plate, by, least), impl.OK)
				checkScrapes(t, plate, by, least)
			}
		}
		for _, least := range []int64{1, thinnest, thinnest + 1, thickest, thickest + 1, 200} {
			checkTooThin(t, plate, min(200, least))
		}
	}
}

func TestPromise9ThinAllTellsItsValue(t *testing.T) {
	plate := [][]int64{{30, 32}, {31, 33}}
	for _, c := range []struct {
		by, least int64
		want      [][]int64
	}{
		{2, 30, [][]int64{{30, 30}, {30, 31}}}, {0, 30, plate}, {0, 1, plate}, {0, 200, plate}, {1, 30, [][]int64{{30, 31}, {30, 32}}}, {3, 30, evenGrid(2, 2, 30)}, {200, 30, evenGrid(2, 2, 30)}, {200, 1, evenGrid(2, 2, 1)},
		{29, 1, [][]int64{{1, 3}, {2, 4}}}, {30, 1, [][]int64{{1, 2}, {1, 3}}}, {32, 1, evenGrid(2, 2, 1)}, {31, 1, [][]int64{{1, 1}, {1, 2}}},
		// Cells that are thinner than the least already stay, also those that are just thinner.
		{2, 32, [][]int64{{30, 32}, {31, 32}}}, {2, 31, [][]int64{{30, 31}, {31, 31}}}, {2, 33, plate}, {2, 34, plate}, {200, 200, plate}, {200, 33, plate}, {200, 32, [][]int64{{30, 32}, {31, 32}}},
	} {
		same(t, "what is wanted", thinIn(plate, c.by, c.least), c.want)
		checkThinAll(t, plate, c.by, c.least, c.want, impl.OK)
	}
	checkThinAll(t, evenGrid(10, 10, 200), 199, 1, evenGrid(10, 10, 1), impl.OK)
	checkThinAll(t, evenGrid(10, 10, 200), 198, 1, evenGrid(10, 10, 2), impl.OK)
	checkThinAll(t, evenGrid(10, 10, 200), 200, 200, evenGrid(10, 10, 200), impl.OK)
	checkThinAll(t, evenGrid(10, 10, 1), 200, 1, evenGrid(10, 10, 1), impl.OK)
	for _, by := range []int64{math.MinInt64, -201, -1, 201, 202, 1 << 32, math.MaxInt64} {
		checkThinAll(t, plate, by, 30, nil, impl.ErrRange)
		checkScrape(t, plate, 0, by, 30, nil, impl.ErrRange)
	}
	for _, least := range noThicks {
		checkThinAll(t, plate, 2, least, nil, impl.ErrRange)
		checkThinAll(t, plate, 0, least, nil, impl.ErrRange)
		checkScrape(t, plate, 0, 2, least, nil, impl.ErrRange)
		checkThinToFails(t, plate, 100, 400, 1000, least, impl.ErrRange)
		checkThinToFails(t, plate, 1, 1, 0, least, impl.ErrRange)
		checkTooThinTells(t, plate, least, nil, impl.ErrRange)
	}
}

func TestPromise9ScrapeRowTellsItsValue(t *testing.T) {
	plate := [][]int64{{30, 32}, {31, 33}, {7, 40}}
	checkScrape(t, plate, 1, 2, 1, [][]int64{{30, 32}, {29, 31}, {7, 40}}, impl.OK)
	checkScrape(t, plate, 0, 2, 31, [][]int64{{30, 31}, {31, 33}, {7, 40}}, impl.OK)
	checkScrape(t, plate, 2, 200, 30, [][]int64{{30, 32}, {31, 33}, {7, 30}}, impl.OK)
	checkScrape(t, plate, 2, 0, 30, plate, impl.OK)
	checkScrape(t, plate, 2, 200, 200, plate, impl.OK)
	checkScrape(t, [][]int64{{200}}, 0, 200, 1, [][]int64{{1}}, impl.OK)
	checkScrape(t, [][]int64{{1}}, 0, 200, 1, [][]int64{{1}}, impl.OK)
	for _, row := range []int64{math.MinInt64, math.MinInt64 + 1, -3, -1, 3, 4, 9, 10, 1 << 32, 1<<32 + 1, math.MaxInt64} {
		checkScrape(t, plate, row, 2, 1, nil, impl.ErrRange)
		checkScrape(t, plate, row, 0, 200, nil, impl.ErrRange)
	}
}

func TestPromise9ThinToIsJustEnough(t *testing.T) {
	random := rand.New(rand.NewSource(114))
	seen := map[bool]int{}
	for range 250 {
		plate, least := anyPlate(random), 1+random.Int63n(60)
		cell, density := 1+random.Int63n(10000), 1+random.Int63n(2000)
		if random.Intn(2) == 0 {
			cell, density = 1+random.Int63n(10), 1+random.Int63n(10) // Few different masses.
		}
		for _, by := range []int64{0, 1, 2, random.Int63n(100), 199, 200} {
			reached := massIn(thinIn(plate, by, least), cell, density)
			for _, mass := range []int64{reached - 1, reached, reached + 1} {
				if mass < 0 {
					continue
				}
				checkThinTo(t, plate, cell, density, mass, least)
				much, code := impl.ThinTo(plate, cell, density, mass, least)
				seen[code == impl.OK]++
				if code != impl.OK {
					continue
				}
				thin, _ := impl.ThinAll(plate, much, least)
				heavy, _ := impl.PlateMass(thin, cell, density)
				if heavy > mass {
					t.Errorf("ThinTo(%v, %d, %d, %d, %d): %d is not enough", plate, cell, density, mass, least, much)
				}
			}
		}
	}
	if seen[true] < 300 || seen[false] < 300 {
		t.Errorf("too few plates of a kind: %v", seen)
	}
}

func TestPromise9ThinToTellsItsValue(t *testing.T) {
	plate := [][]int64{{30, 32}, {31, 33}}
	for _, c := range [][3]int64{
		// A mass, the least thickness, and by how much; 126 tenths are 504, 4 for each tenth.
		{504, 30, 0}, {505, 30, 0}, {1000000000, 30, 0}, {503, 30, 1}, {492, 30, 1}, {491, 30, 2}, {484, 30, 2}, {483, 30, 3}, {480, 30, 3},
		{504, 200, 0}, {16, 1, 32}, {17, 1, 32}, {19, 1, 32}, {20, 1, 31}, {24, 1, 31}, {28, 1, 30}, {500, 32, 1},
	} {
		checkThinToTells(t, plate, 100, 400, c[0], c[1], c[2])
		checkThinTo(t, plate, 100, 400, c[0], c[1])
	}
	for _, c := range [][2]int64{{479, 30}, {400, 30}, {0, 30}, {15, 1}, {0, 1}, {503, 200}, {503, 33}, {499, 32}} {
		checkThinToFails(t, plate, 100, 400, c[0], c[1], impl.ErrNotFound)
	}
	// What is rounded counts: 5 tenths of a cell of 1000 are 1, and 4 of them are 0.
	checkThinToTells(t, [][]int64{{5}}, 1000, 1, 1, 1, 0)
	checkThinToTells(t, [][]int64{{5}}, 1000, 1, 0, 1, 1)
	checkThinToTells(t, [][]int64{{200}}, 1000, 1, 0, 1, 196)
	checkThinToTells(t, [][]int64{{200}}, 10000, 1, 1, 1, 199)
	checkThinToFails(t, [][]int64{{200}}, 10000, 1, 0, 1, impl.ErrNotFound)
	checkThinToTells(t, evenGrid(10, 10, 200), 10000, 2000, 40000000, 1, 0)
	checkThinToTells(t, evenGrid(10, 10, 200), 10000, 2000, 39999999, 1, 1)
	checkThinToTells(t, evenGrid(10, 10, 200), 10000, 2000, 200000, 1, 199)
	checkThinToFails(t, evenGrid(10, 10, 200), 10000, 2000, 199999, 1, impl.ErrNotFound)
	checkThinToTells(t, evenGrid(10, 10, 200), 1, 1, 0, 1, 151)
	checkThinToTells(t, [][]int64{{1}}, 1, 1, 0, 200, 0)
	for _, mass := range []int64{0, 1, 999999999, 1000000000} {
		checkThinTo(t, plate, 100, 400, mass, 30)
	}
	for _, mass := range []int64{math.MinInt64, -1000000000, -1, 1000000001, math.MaxInt64} {
		checkThinToFails(t, plate, 100, 400, mass, 30, impl.ErrRange)
		checkThinToFails(t, [][]int64{{1}}, 1, 1, mass, 1, impl.ErrRange)
	}
}

func TestPromise9TooThinTellsItsValue(t *testing.T) {
	plate := [][]int64{{30, 32}, {31, 33}}
	checkTooThinTells(t, plate, 1, nil, impl.OK)
	checkTooThinTells(t, plate, 30, nil, impl.OK)
	checkTooThinTells(t, plate, 31, [][]int64{{0, 0}}, impl.OK)
	checkTooThinTells(t, plate, 32, [][]int64{{0, 0}, {1, 0}}, impl.OK)
	checkTooThinTells(t, plate, 33, [][]int64{{0, 0}, {0, 1}, {1, 0}}, impl.OK)
	checkTooThinTells(t, plate, 34, [][]int64{{0, 0}, {0, 1}, {1, 0}, {1, 1}}, impl.OK)
	checkTooThinTells(t, plate, 200, allPlaces(plate), impl.OK)
	checkTooThinTells(t, [][]int64{{1, 9, 1}}, 9, [][]int64{{0, 0}, {0, 2}}, impl.OK)
	checkTooThinTells(t, evenGrid(10, 10, 200), 200, nil, impl.OK)
	checkTooThinTells(t, evenGrid(10, 10, 199), 200, allPlaces(evenGrid(10, 10, 7)), impl.OK)
	checkTooThinTells(t, evenGrid(10, 10, 1), 1, nil, impl.OK)
	// A plate that was thinned is too thin just where it was so before.
	for _, least := range []int64{1, 31, 33, 200} {
		thin, _ := impl.ThinAll(plate, 200, least)
		want, _ := impl.TooThin(plate, least)
		checkTooThinTells(t, thin, least, want, impl.OK)
	}
}
