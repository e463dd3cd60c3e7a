package tests

import (
	"fmt"
	"math"
	"math/rand"
	"strings"
	"testing"

	"loop.example/g01061/impl"
)

// stacksOf returns a list of so many stacks, which are others for each seed.
func stacksOf(many int, seed int64) []impl.Stack {
	random := rand.New(rand.NewSource(seed))
	list := make([]impl.Stack, many)
	for k := range list {
		list[k] = randomStack(random)
		list[k].Id = fmt.Sprintf("s%03d", k)
		list[k].Since = 9000 + random.Int63n(8)
	}
	return list
}

// since returns stacks that are stored since told days.
func since(days ...int64) []impl.Stack {
	list := make([]impl.Stack, len(days))
	for k, day := range days {
		list[k] = stack(fmt.Sprintf("s%02d", k), 200, 20, day)
	}
	return list
}

// namedStacks returns stacks with told Ids.
func namedStacks(ids ...string) []impl.Stack {
	list := make([]impl.Stack, len(ids))
	for k, id := range ids {
		list[k] = stack(id, 200, 20, 9000)
	}
	return list
}

// checkStackFails checks the functions with a stack for wrong arguments.
func checkStackFails(t *testing.T, x impl.Stack, humidity, goal, days, want int64) {
	t.Helper()
	name := fmt.Sprintf(" of %s, %d, %d, %d", shown(x), humidity, goal, days)
	check := func(function string, n, code int64) {
		t.Helper()
		same(t, function+name, []int64{n, code}, []int64{0, want})
	}
	n, code := impl.MoistureAfter(x, humidity, days)
	check("MoistureAfter", n, code)
	n, code = impl.CrackDays(x, humidity, goal, days)
	check("CrackDays", n, code)
	n, code = impl.CrackDays(x, goal, humidity, days)
	check("CrackDays the other way round", n, code)
	moistures, code := impl.StagesFor(x, []int64{300, 1000, humidity}, days)
	check("StagesFor", int64(len(moistures)), code)
	moistures, code = impl.StagesFor(x, []int64{humidity, 300}, days)
	check("StagesFor", int64(len(moistures)), code)
}

// checkInvalidStack checks that a stack is as nothing, whatever else is wrong.
func checkInvalidStack(t *testing.T, x impl.Stack) {
	t.Helper()
	same(t, "StackText of "+shown(x), impl.StackText(x), "")
	for _, n := range []int64{math.MinInt64, -1, 0, 1, 1000, 4001, math.MaxInt64} {
		checkStackFails(t, x, n, n, n, impl.ErrInvalid)
		days, code := impl.DaysToDry(x, n, n)
		same(t, fmt.Sprintf("DaysToDry of %s, %d", shown(x), n), []int64{days, code}, []int64{0, impl.ErrInvalid})
		humidity, code := impl.SafeHumidity(x, n)
		same(t, fmt.Sprintf("SafeHumidity of %s, %d", shown(x), n), []int64{humidity, code}, []int64{0, impl.ErrInvalid})
	}
	moistures, code := impl.StagesFor(x, make([]int64, impl.MaxStacks+1), 1)
	same(t, "StagesFor of "+shown(x), []any{len(moistures), code}, []any{0, int64(impl.ErrInvalid)})
	checkInvalidStacks(t, []impl.Stack{x})
	checkInvalidStacks(t, []impl.Stack{x, stack("zzzzzzzzzz", 200, 20, 9000)})
	checkInvalidStacks(t, []impl.Stack{stack("a", 200, 20, 9000), x})
}

// checkInvalidStacks checks that a list is as nothing, whatever else is wrong.
func checkInvalidStacks(t *testing.T, list []impl.Stack) {
	t.Helper()
	same(t, "ValidStacks of "+shown(list), impl.ValidStacks(list), false)
	for _, n := range []int64{math.MinInt64, -1, 0, 1000, 1001, 36525, math.MaxInt64} {
		ready, code := impl.ReadyStacks(list, n, n, n)
		same(t, fmt.Sprintf("ReadyStacks of %s, %d", shown(list), n), []any{len(ready), code}, []any{0, int64(impl.ErrInvalid)})
		id, days, code := impl.OldestStack(list, n)
		same(t, fmt.Sprintf("OldestStack of %s, %d", shown(list), n), []any{id, days, code}, []any{"", int64(0), int64(impl.ErrInvalid)})
	}
}

func TestPromise5ValidStack(t *testing.T) {
	fields := []func(*impl.Stack) *int64{
		func(x *impl.Stack) *int64 { return &x.Moisture }, func(x *impl.Stack) *int64 { return &x.Thick }, func(x *impl.Stack) *int64 { return &x.Since },
	}
	for k, limits := range [][2]int64{{0, 1000}, {10, 1000}, {0, impl.MaxDate}} {
		for _, n := range []int64{limits[0], limits[0] + 1, limits[1] - 1, limits[1]} {
			x := stack("s", 200, 20, 9000)
			*fields[k](&x) = n
			same(t, "ValidStacks of "+shown(x), impl.ValidStacks([]impl.Stack{x}), true)
			moisture, code := impl.MoistureAfter(x, 300, 0)
			same(t, "MoistureAfter of "+shown(x), []int64{moisture, code}, []int64{x.Moisture, impl.OK})
		}
		for _, n := range []int64{math.MinInt64, -limits[1], limits[0] - 1, limits[1] + 1, 1 << 32, 1<<32 + 20, math.MaxInt64} {
			x := stack("s", 200, 20, 9000)
			*fields[k](&x) = n
			checkInvalidStack(t, x)
		}
	}
	for _, id := range []string{"", "1", "S", "a b", "a ", "a-b", "abcdefghijk", "\u00e9", "a\x00"} {
		checkInvalidStack(t, stack(id, 200, 20, 9000))
	}
	checkInvalidStack(t, impl.Stack{})
}

func TestPromise5ValidStacks(t *testing.T) {
	for many := range impl.MaxStacks + 1 {
		same(t, fmt.Sprintf("ValidStacks of %d", many), impl.ValidStacks(stacksOf(many, 1)), true)
	}
	same(t, "ValidStacks of nil", impl.ValidStacks(nil), true)
	checkInvalidStacks(t, stacksOf(impl.MaxStacks+1, 1))
	checkInvalidStacks(t, stacksOf(1000, 1))
	same(t, "ValidStacks in bytewise order", impl.ValidStacks(namedStacks("a", "a0", "a10", "a2", "aa", "b", "z")), true)
	for _, ids := range [][]string{{"a", "a"}, {"b", "a"}, {"a2", "a10"}, {"aa", "a"}, {"a", "b", "b"}, {"a", "c", "b"}, {"b", "c", "a"}, {"a", "b", "a", "b"}} {
		checkInvalidStacks(t, namedStacks(ids...))
	}
}

func TestPromise5NumbersAtTheLimits(t *testing.T) {
	x := stack("s", 200, 20, 9000)
	for _, wrong := range beyondThousand {
		checkStackFails(t, x, wrong, 100, 1, impl.ErrRange)
		checkStackFails(t, x, wrong, wrong, -1, impl.ErrRange)
		for _, c := range [][2]int64{{wrong, 100}, {300, wrong}, {wrong, wrong}, {wrong, 200}} {
			days, code := impl.DaysToDry(x, c[0], c[1])
			same(t, fmt.Sprintf("DaysToDry %v", c), []int64{days, code}, []int64{0, impl.ErrRange})
		}
		humidity, code := impl.SafeHumidity(x, wrong)
		same(t, fmt.Sprintf("SafeHumidity(%d)", wrong), []int64{humidity, code}, []int64{0, impl.ErrRange})
	}
	for _, wrong := range beyondDry {
		checkStackFails(t, x, 300, 100, wrong, impl.ErrRange)
		moistures, code := impl.StagesFor(x, nil, wrong)
		same(t, fmt.Sprintf("StagesFor no humidities, %d", wrong), []any{len(moistures), code}, []any{0, int64(impl.ErrRange)})
	}
	for _, many := range []int{impl.MaxStacks + 1, 1000} {
		moistures, code := impl.StagesFor(x, make([]int64, many), 1)
		same(t, fmt.Sprintf("StagesFor %d humidities", many), []any{len(moistures), code}, []any{0, int64(impl.ErrRange)})
	}
	for _, many := range []int{0, impl.MaxStacks} {
		moistures, code := impl.StagesFor(x, make([]int64, many), 0)
		same(t, fmt.Sprintf("StagesFor %d humidities", many), []any{len(moistures), code}, []any{many, int64(impl.OK)})
	}
}

// readyOf returns the stacks that are ready by the definition.
func readyOf(list []impl.Stack, humidity, day, goal int64) []int64 {
	ready := []int64{}
	for k, x := range list {
		days := day - x.Since
		if days >= 0 && days <= impl.MaxDry && moisturesOf(x, humidity, days)[days] <= goal {
			ready = append(ready, int64(k))
		}
	}
	return ready
}

func checkReady(t *testing.T, list []impl.Stack, humidity, day, goal int64, want []int64) {
	t.Helper()
	ready, code := impl.ReadyStacks(list, humidity, day, goal)
	same(t, fmt.Sprintf("ReadyStacks(%v, %d, %d, %d)", list, humidity, day, goal), []any{fmt.Sprint(ready), code}, []any{fmt.Sprint(want), int64(impl.OK)})
}

func TestPromise5ReadyStacksAreDry(t *testing.T) {
	random := rand.New(rand.NewSource(28))
	for seed := range int64(1500) {
		list := stacksOf(random.Intn(impl.MaxStacks+1), seed)
		humidity, goal, day := randomThousandths(random), random.Int63n(300), 8998+random.Int63n(40)
		if random.Intn(20) == 0 {
			day = 9000 + impl.MaxDry + random.Int63n(10)
		}
		checkReady(t, list, humidity, day, goal, readyOf(list, humidity, day, goal))
		ready, _ := impl.ReadyStacks(list, humidity, day, goal)
		for _, k := range ready {
			moisture, code := impl.MoistureAfter(list[k], humidity, day-list[k].Since)
			if code != impl.OK || moisture > goal {
				t.Errorf("ReadyStacks(%v, %d, %d, %d): %d is not dry", list, humidity, day, goal, k)
			}
			days, code := impl.DaysToDry(list[k], humidity, goal)
			if code != impl.OK || days > day-list[k].Since {
				t.Errorf("ReadyStacks(%v, %d, %d, %d): %d is dry only behind %d days", list, humidity, day, goal, k, days)
			}
		}
	}
}

func TestPromise5ReadyStacksTellsItsValue(t *testing.T) {
	list := since(9000, 8999, 9002, 9001, 9003, 8000)
	checkReady(t, list, 300, 9002, 95, []int64{0, 1, 5})
	checkReady(t, list, 300, 9002, 94, []int64{1, 5})
	checkReady(t, list, 300, 9002, 130, []int64{0, 1, 3, 5})
	checkReady(t, list, 300, 9002, 199, []int64{0, 1, 3, 5})
	checkReady(t, list, 300, 9002, 200, []int64{0, 1, 2, 3, 5})
	checkReady(t, list, 300, 9003, 200, []int64{0, 1, 2, 3, 4, 5})
	checkReady(t, list, 300, 9002, 59, []int64{})
	checkReady(t, list, 300, 7999, 1000, []int64{})
	checkReady(t, list, 300, 8000, 1000, []int64{5})
	checkReady(t, list, 300, 12000, 1000, []int64{0, 1, 2, 3, 4, 5})
	checkReady(t, list, 300, 12001, 1000, []int64{0, 1, 2, 3, 4})
	checkReady(t, list, 300, 12999, 1000, []int64{0, 1, 2, 3, 4})
	checkReady(t, list, 300, 13000, 1000, []int64{0, 2, 3, 4})
	checkReady(t, list, 300, 13003, 1000, []int64{4})
	checkReady(t, list, 300, 13004, 1000, []int64{})
	checkReady(t, nil, 0, 0, 0, []int64{})
	checkReady(t, since(0, impl.MaxDate), 0, impl.MaxDate, 1000, []int64{1})
	checkReady(t, since(0, impl.MaxDate), 1000, 0, 1000, []int64{0})
}

func TestPromise5WoodThatIsDryAtOnce(t *testing.T) {
	list := []impl.Stack{stack("a", 100, 10, 9000), stack("b", 99, 1000, 9001), stack("c", 101, 10, 9000)}
	checkReady(t, list, 1000, 9000, 100, []int64{0})
	checkReady(t, list, 1000, 9001, 100, []int64{1})
	checkReady(t, list, 1000, 9002, 100, []int64{})
	checkReady(t, list, 0, 9001, 100, []int64{0, 1, 2})
	for _, humidity := range []int64{0, 450, 1000} {
		for goal := int64(98); goal <= 102; goal++ {
			for _, x := range list {
				days, code := impl.DaysToDry(x, humidity, goal)
				same(t, fmt.Sprintf("DaysToDry(%s, %d, %d)", shown(x), humidity, goal), []int64{days, code}, daysToDryOf(x, humidity, goal))
			}
			checkThickToDry(t, 100, humidity, goal, 0)
		}
	}
	days, code := impl.DaysToDry(list[0], 1000, 100)
	same(t, "DaysToDry of wood that is dry and becomes wet", []int64{days, code}, []int64{0, impl.OK})
	days, code = impl.DaysToDry(list[2], 1000, 100)
	same(t, "DaysToDry of wood that is wet and becomes wetter", []int64{days, code}, []int64{0, impl.ErrNotFound})
}

func TestPromise5ReadyStacksRefuses(t *testing.T) {
	check := func(list []impl.Stack, humidity, day, goal int64) {
		t.Helper()
		ready, code := impl.ReadyStacks(list, humidity, day, goal)
		same(t, fmt.Sprintf("ReadyStacks(%v, %d, %d, %d)", list, humidity, day, goal), []any{len(ready), code}, []any{0, int64(impl.ErrRange)})
	}
	for _, list := range [][]impl.Stack{nil, since(9000), since(0, impl.MaxDate)} {
		for _, wrong := range beyondThousand {
			check(list, wrong, 9000, 1000)
			check(list, 300, 9000, wrong)
			check(list, wrong, wrong, wrong)
		}
		for _, wrong := range noDays {
			check(list, 300, wrong, 1000)
		}
	}
}

func TestPromise5OldestStack(t *testing.T) {
	for _, c := range []struct {
		list []impl.Stack
		day  int64
		want []any
	}{
		{since(9000, 8000), 9010, []any{"s01", 1010, impl.OK}}, {since(8000, 9000), 9010, []any{"s00", 1010, impl.OK}}, {since(8000, 8000, 8000), 8000, []any{"s00", 0, impl.OK}},
		{since(9, 7, 8, 7, 9), 7, []any{"s01", 0, impl.OK}}, {since(9, 7, 8, 7, 9), 6, []any{"", 0, impl.ErrState}}, {since(9, 7, 8, 7, 9), 8, []any{"s01", 1, impl.OK}}, {since(9, 8, 7), 100, []any{"s02", 93, impl.OK}},
		{since(0), impl.MaxDate, []any{"s00", impl.MaxDate, impl.OK}}, {since(impl.MaxDate), impl.MaxDate, []any{"s00", 0, impl.OK}}, {since(impl.MaxDate), 0, []any{"", 0, impl.ErrState}}, {since(1), 0, []any{"", 0, impl.ErrState}},
		{since(9000, 8000), 7000, []any{"", 0, impl.ErrState}}, {since(9000, 8000), 7999, []any{"", 0, impl.ErrState}}, {nil, 7000, []any{"", 0, impl.ErrNotFound}}, {[]impl.Stack{}, 0, []any{"", 0, impl.ErrNotFound}},
	} {
		id, days, code := impl.OldestStack(c.list, c.day)
		same(t, fmt.Sprintf("OldestStack(%v, %d)", c.list, c.day), fmt.Sprintf("%q %d %d", id, days, code), fmt.Sprintf("%q %d %d", c.want...))
	}
	for _, wrong := range noDays {
		for _, list := range [][]impl.Stack{nil, since(9000), since(0, impl.MaxDate)} {
			id, days, code := impl.OldestStack(list, wrong)
			same(t, fmt.Sprintf("OldestStack(%v, %d)", list, wrong), []any{id, days, code}, []any{"", int64(0), int64(impl.ErrRange)})
		}
	}
}

func TestPromise5StackTexts(t *testing.T) {
	random := rand.New(rand.NewSource(29))
	list := []impl.Stack{stack("sa", 200, 20, 9000), stack("a", 0, 10, 0), stack("abcdefghij", 1000, 1000, impl.MaxDate)}
	for range 1000 {
		x := randomStack(random)
		x.Id = fmt.Sprintf("%c%x", 'a'+random.Intn(26), random.Int31())
		list = append(list, x)
	}
	for _, x := range list {
		s := fmt.Sprintf("%s %d,%d %s", x.Id, x.Moisture, x.Thick, timeOf(x.Since).Format("2006-01-02"))
		same(t, "StackText", impl.StackText(x), s)
		got, ok := impl.ReadStack(s)
		same(t, "ReadStack of "+s, []any{got, ok}, []any{x, true})
	}
	same(t, "StackText", impl.StackText(stack("sa", 200, 20, 9000)), "sa 200,20 2024-08-22")
}

// wrongStackTexts are texts of no stack, many of them nearly canonical.
func wrongStackTexts() []string {
	return []string{
		"", " ", "  ", "sa", "sa ", "sa 200,20", "sa 200,20 ", " 200,20 2024-08-22", "200,20 2024-08-22", "sa 2024-08-22", "sa  2024-08-22", "sa 2024-08-22 200,20", "200,20 sa 2024-08-22",
		"sa  200,20 2024-08-22", "sa 200,20  2024-08-22", " sa 200,20 2024-08-22", "sa 200,20 2024-08-22 ", "sa 200,20 2024-08-22\n", "sa\t200,20 2024-08-22", "sa 200,20\t2024-08-22", "sa 200,20 2024-08-22 x", "sa x 200,20 2024-08-22",
		"sa 200, 20 2024-08-22", "sa 200 20 2024-08-22", "sa,200,20 2024-08-22", "sa 200,20,2024-08-22", "sa 200 2024-08-22", "sa 200,20,1 2024-08-22", "sa 200, 2024-08-22", "sa ,20 2024-08-22", "sa 200,,20 2024-08-22", "sa - 2024-08-22",
		"sa 0200,20 2024-08-22", "sa 200,020 2024-08-22", "sa +200,20 2024-08-22", "sa -0,20 2024-08-22", "sa 2e2,20 2024-08-22", "sa x,20 2024-08-22", "sa 200;20 2024-08-22", "sa 200.0,20 2024-08-22",
		"sa -1,20 2024-08-22", "sa 1001,20 2024-08-22", "sa 200,9 2024-08-22", "sa 200,0 2024-08-22", "sa 200,-20 2024-08-22", "sa 200,1001 2024-08-22", "sa 9223372036854775808,20 2024-08-22", "sa 18446744073709551816,20 2024-08-22",
		"sa 200,20 9000", "sa 200,20 2024-8-22", "sa 200,20 2024-08-2", "sa 200,20 24-08-22", "sa 200,20 02024-08-22", "sa 200,20 2024/08/22", "sa 200,20 20240822", "sa 200,20 2023-02-29", "sa 200,20 1999-12-31", "sa 200,20 2100-01-01",
		"Sa 200,20 2024-08-22", "1a 200,20 2024-08-22", "s-a 200,20 2024-08-22", "abcdefghijk 200,20 2024-08-22", "\u00e9 200,20 2024-08-22", "sa\u00a0200,20 2024-08-22", "sa 200,\u0662\u0660 2024-08-22", "sa 200,20 2024-08-22\x00",
		"sa " + strings.Repeat("1,", 100) + "1 2024-08-22", strings.Repeat(" ", 1000), strings.Repeat("sa 200,20 2024-08-22 ", 100),
	}
}

func TestPromise5ReadStackRefuses(t *testing.T) {
	for _, s := range wrongStackTexts() {
		x, ok := impl.ReadStack(s)
		same(t, fmt.Sprintf("ReadStack(%q)", s), []any{x, ok}, []any{impl.Stack{}, false})
	}
	good := "sa 200,20 2024-08-22"
	for k := range good {
		shorter := good[:k] + good[k+1:]
		if x, ok := impl.ReadStack(shorter); ok && impl.StackText(x) != shorter {
			t.Errorf("ReadStack(%q): got %s", shorter, shown(x))
		}
		for _, added := range []string{" ", "0", "-", "+", ",", "a"} {
			longer := good[:k] + added + good[k:]
			if x, ok := impl.ReadStack(longer); ok && impl.StackText(x) != longer {
				t.Errorf("ReadStack(%q): got %s", longer, shown(x))
			}
		}
	}
}
