package tests

import (
	"fmt"
	"math"
	"math/rand"
	"testing"

	"loop.example/g01061/impl"
)

// beyondThousand are numbers that are no humidities, moistures, goals or shares.
var beyondThousand = []int64{math.MinInt64, math.MinInt64 + 1, -1000, -2, -1, 1001, 1002, 1 << 32, 1<<32 + 1, math.MaxInt64 - 1, math.MaxInt64}

// beyondDry are numbers that are no days of a time.
var beyondDry = []int64{math.MinInt64, math.MinInt64 + 1, -4000, -1, 4001, 4002, 36524, 1 << 32, 1<<32 + 1, math.MaxInt64 - 1, math.MaxInt64}

func stack(id string, moisture, thick, since int64) impl.Stack {
	return impl.Stack{Id: id, Moisture: moisture, Thick: thick, Since: since}
}

// roundedOf returns the integer nearest to a / b for a positive b, farther from 0 if two are.
func roundedOf(a, b int64) int64 {
	if a < 0 {
		return -roundedOf(-a, b)
	}
	return (2*a + b) / (2 * b)
}

// evenOf returns the even moisture for a humidity.
func evenOf(humidity int64) int64 {
	switch {
	case humidity <= 300:
		return roundedOf(60*humidity, 300)
	case humidity <= 600:
		return 60 + roundedOf(50*(humidity-300), 300)
	case humidity <= 800:
		return 110 + roundedOf(50*(humidity-600), 200)
	}
	return 160 + roundedOf(120*(humidity-800), 200)
}

// moisturesOf returns the moistures of a stack at the beginning and behind each of so many days.
func moisturesOf(x impl.Stack, humidity, days int64) []int64 {
	list := []int64{x.Moisture}
	for day := range days {
		list = append(list, list[day]+roundedOf(20*(evenOf(humidity)-list[day]), x.Thick+20))
	}
	return list
}

// randomStack is a valid stack, often with a moisture or a thick at its limits.
func randomStack(random *rand.Rand) impl.Stack {
	x := stack("s", random.Int63n(1001), 10+random.Int63n(991), random.Int63n(impl.MaxDate+1))
	if random.Intn(4) == 0 {
		x.Moisture = []int64{0, 1, 60, 280, 999, 1000}[random.Intn(6)]
	}
	if random.Intn(2) == 0 {
		x.Thick = []int64{10, 11, 20, 40, 999, 1000}[random.Intn(6)]
	}
	return x
}

// randomThousandths is a number from 0 to 1000, often one at a limit or at a point of even moisture.
func randomThousandths(random *rand.Rand) int64 {
	if random.Intn(3) == 0 {
		return []int64{0, 1, 300, 600, 800, 999, 1000}[random.Intn(7)]
	}
	return random.Int63n(1001)
}

func TestPromise5Constants(t *testing.T) {
	same(t, "constants", []int64{impl.MaxStacks, impl.MaxDry}, []int64{12, 4000})
}

func TestPromise5EvenMoisture(t *testing.T) {
	for humidity := range int64(1001) {
		even, code := impl.EvenMoisture(humidity)
		same(t, fmt.Sprintf("EvenMoisture(%d)", humidity), []int64{even, code}, []int64{evenOf(humidity), impl.OK})
	}
	for _, c := range [][2]int64{
		{0, 0}, {2, 0}, {3, 1}, {299, 60}, {300, 60}, {302, 60}, {303, 61}, {450, 85}, {597, 110}, {600, 110}, {601, 110}, {602, 111}, {700, 135}, {800, 160}, {801, 161}, {900, 220}, {999, 279}, {1000, 280},
	} {
		even, code := impl.EvenMoisture(c[0])
		same(t, fmt.Sprintf("EvenMoisture(%d)", c[0]), []int64{even, code}, []int64{c[1], impl.OK})
	}
	for _, humidity := range beyondThousand {
		even, code := impl.EvenMoisture(humidity)
		same(t, fmt.Sprintf("EvenMoisture(%d)", humidity), []int64{even, code}, []int64{0, impl.ErrRange})
	}
}

// checkMoistures checks a stack behind each of the first days.
func checkMoistures(t *testing.T, x impl.Stack, humidity int64, want []int64) {
	t.Helper()
	for days, moisture := range want {
		got, code := impl.MoistureAfter(x, humidity, int64(days))
		same(t, fmt.Sprintf("MoistureAfter(%s, %d, %d)", shown(x), humidity, days), []int64{got, code}, []int64{moisture, impl.OK})
	}
}

func TestPromise5MoistureAfterTellsItsValue(t *testing.T) {
	checkMoistures(t, stack("falls", 200, 20, 0), 300, []int64{200, 130, 95, 77, 68, 64, 62, 61, 60, 60})
	checkMoistures(t, stack("rises", 0, 20, 0), 300, []int64{0, 30, 45, 53, 57, 59, 60, 60})
	checkMoistures(t, stack("thin", 1000, 10, 0), 0, []int64{1000, 333, 111, 37, 12, 4, 1, 0, 0})
	checkMoistures(t, stack("thick", 1000, 1000, 0), 0, []int64{1000, 980, 961, 942})
	checkMoistures(t, stack("sticks", 86, 1000, 36524), 300, []int64{86, 85, 85})
	checkMoistures(t, stack("sticks", 85, 1000, 0), 300, []int64{85, 85, 85})
	checkMoistures(t, stack("sticks", 34, 1000, 0), 300, []int64{34, 35, 35})
	checkMoistures(t, stack("sticks", 35, 1000, 0), 300, []int64{35, 35})
}

func TestPromise5MoistureAfter(t *testing.T) {
	random := rand.New(rand.NewSource(21))
	for range 200 {
		x, humidity := randomStack(random), randomThousandths(random)
		moistures := moisturesOf(x, humidity, impl.MaxDry)
		for _, days := range []int64{0, 1, 2, random.Int63n(100), random.Int63n(impl.MaxDry), impl.MaxDry - 1, impl.MaxDry} {
			got, code := impl.MoistureAfter(x, humidity, days)
			same(t, fmt.Sprintf("MoistureAfter(%s, %d, %d)", shown(x), humidity, days), []int64{got, code}, []int64{moistures[days], impl.OK})
		}
	}
}

func TestPromise5EvenMoistureDoesNotChange(t *testing.T) {
	for humidity := range int64(1001) {
		even, _ := impl.EvenMoisture(humidity)
		for _, thick := range []int64{10, 11, 20, 999, 1000} {
			x, name := stack("even", even, thick, 9000), fmt.Sprintf(" of a stack of %d with the humidity %d", thick, humidity)
			for _, days := range []int64{0, 1, 30} {
				got, code := impl.MoistureAfter(x, humidity, days)
				same(t, "MoistureAfter"+name, []int64{got, code}, []int64{even, impl.OK})
			}
			days, code := impl.DaysToDry(x, humidity, even)
			same(t, "DaysToDry"+name, []int64{days, code}, []int64{0, impl.OK})
			days, code = impl.CrackDays(x, humidity, 0, 30)
			same(t, "CrackDays"+name, []int64{days, code}, []int64{0, impl.OK})
		}
	}
}

// daysToDryOf returns the results of DaysToDry by its definition.
func daysToDryOf(x impl.Stack, humidity, goal int64) []int64 {
	for days, moisture := range moisturesOf(x, humidity, impl.MaxDry) {
		if moisture <= goal {
			return []int64{int64(days), impl.OK}
		}
	}
	return []int64{0, impl.ErrNotFound}
}

func TestPromise5DryingTakesJustAsLongAsTold(t *testing.T) {
	random := rand.New(rand.NewSource(22))
	for range 3000 {
		x, humidity, goal := randomStack(random), randomThousandths(random), randomThousandths(random)
		if random.Intn(2) == 0 {
			goal = min(1000, evenOf(humidity)+random.Int63n(40))
		}
		name := fmt.Sprintf("(%s, %d, %d)", shown(x), humidity, goal)
		days, code := impl.DaysToDry(x, humidity, goal)
		same(t, "DaysToDry"+name, []int64{days, code}, daysToDryOf(x, humidity, goal))
		if code != impl.OK {
			continue
		}
		moisture, _ := impl.MoistureAfter(x, humidity, days)
		same(t, "dry behind DaysToDry"+name, moisture <= goal, true)
		if days > 0 {
			moisture, _ = impl.MoistureAfter(x, humidity, days-1)
			same(t, "dry before DaysToDry"+name, moisture <= goal, false)
		}
	}
}

func TestPromise5DaysToDryTellsItsValue(t *testing.T) {
	for _, c := range [][6]int64{
		{200, 20, 300, 130, 1, 0}, {200, 20, 300, 129, 2, 0}, {200, 20, 300, 100, 2, 0}, {200, 20, 300, 61, 7, 0}, {200, 20, 300, 60, 8, 0}, {200, 20, 300, 59, 0, 3},
		{200, 20, 300, 199, 1, 0}, {200, 20, 300, 200, 0, 0}, {200, 20, 300, 201, 0, 0}, {200, 20, 300, 1000, 0, 0}, {1000, 10, 0, 0, 7, 0}, {1000, 10, 0, 1000, 0, 0}, {0, 10, 1000, 0, 0, 0},
		{0, 1000, 1000, 0, 0, 0}, {0, 1000, 0, 0, 0, 0}, {60, 10, 1000, 60, 0, 0}, {60, 10, 1000, 59, 0, 3}, {1, 10, 1000, 0, 0, 3}, {1, 10, 0, 0, 1, 0}, {1000, 1000, 0, 0, 0, 3},
		{86, 1000, 300, 85, 1, 0}, {86, 1000, 300, 84, 0, 3}, {85, 1000, 300, 84, 0, 3}, {1000, 10, 1000, 280, 7, 0}, {1000, 10, 1000, 279, 0, 3},
	} {
		days, code := impl.DaysToDry(stack("s", c[0], c[1], 0), c[2], c[3])
		same(t, fmt.Sprintf("DaysToDry %v", c[:4]), []int64{days, code}, c[4:])
	}
}

func TestPromise5CrackDays(t *testing.T) {
	random := rand.New(rand.NewSource(23))
	for range 2000 {
		x, humidity, days := randomStack(random), randomThousandths(random), random.Int63n(60)
		moistures := moisturesOf(x, humidity, days)
		for _, most := range []int64{0, 1, random.Int63n(20), random.Int63n(400), 1000} {
			want := int64(0)
			for day := range days {
				if change := moistures[day+1] - moistures[day]; change > most || -change > most {
					want++
				}
			}
			got, code := impl.CrackDays(x, humidity, most, days)
			same(t, fmt.Sprintf("CrackDays(%s, %d, %d, %d)", shown(x), humidity, most, days), []int64{got, code}, []int64{want, impl.OK})
		}
	}
}

func TestPromise5CrackDaysTellsItsValue(t *testing.T) {
	for _, c := range [][7]int64{
		{200, 20, 300, 70, 8, 0, 0}, {200, 20, 300, 69, 8, 1, 0}, {200, 20, 300, 35, 8, 1, 0}, {200, 20, 300, 34, 8, 2, 0}, {200, 20, 300, 18, 8, 2, 0}, {200, 20, 300, 17, 8, 3, 0}, {200, 20, 300, 0, 8, 8, 0},
		{200, 20, 300, 0, 7, 7, 0}, {200, 20, 300, 0, 1, 1, 0}, {200, 20, 300, 0, 0, 0, 0}, {200, 20, 300, 0, 4000, 8, 0}, {200, 20, 300, 1000, 4000, 0, 0}, {0, 20, 300, 30, 8, 0, 0}, {0, 20, 300, 29, 8, 1, 0},
		{0, 20, 300, 0, 8, 6, 0}, {1000, 10, 0, 667, 9, 0, 0}, {1000, 10, 0, 666, 9, 1, 0}, {0, 10, 1000, 187, 9, 0, 0}, {0, 10, 1000, 186, 9, 1, 0},
	} {
		days, code := impl.CrackDays(stack("s", c[0], c[1], 0), c[2], c[3], c[4])
		same(t, fmt.Sprintf("CrackDays %v", c[:5]), []int64{days, code}, c[5:])
	}
}

func TestPromise5StagesFor(t *testing.T) {
	random := rand.New(rand.NewSource(24))
	for many := range impl.MaxStacks + 1 {
		for _, days := range []int64{0, 1, 2, 30, impl.MaxDry} {
			x := randomStack(random)
			var stages, want []int64
			at := x
			for range many {
				humidity := randomThousandths(random)
				at.Moisture = moisturesOf(at, humidity, days)[days]
				stages, want = append(stages, humidity), append(want, at.Moisture)
			}
			got, code := impl.StagesFor(x, stages, days)
			same(t, fmt.Sprintf("StagesFor(%s, %v, %d)", shown(x), stages, days), []any{fmt.Sprint(got), code}, []any{fmt.Sprint(want), int64(impl.OK)})
		}
	}
	got, code := impl.StagesFor(stack("s", 200, 20, 0), []int64{300, 300, 0, 1000}, 1)
	same(t, "StagesFor of four humidities", []any{got, code}, []any{[]int64{130, 95, 47, 164}, int64(impl.OK)})
}
