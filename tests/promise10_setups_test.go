package tests

import (
	"fmt"
	"math"
	"math/rand"
	"slices"
	"testing"

	"loop.example/g01061/impl"
)

// setUpTask is what a set-up is searched for, and with which bounds.
type setUpTask struct {
	list        []impl.Cord
	gauges      [][]int64
	most, share int64
}

func (s setUpTask) name() string {
	return fmt.Sprintf(" of %v, %v, most %d, share %d", s.list, s.gauges, s.most, s.share)
}

// tensionsWith returns the tensions of the first strings with gauges, and whether they keep all bounds.
func (s setUpTask) tensionsWith(gauges []int64) (tensions []int64, keeps bool) {
	sum, keeps := int64(0), true
	for k, gauge := range gauges {
		x := s.list[k]
		x.Gauge = gauge
		tensions = append(tensions, tensionIn(x))
		sum += tensions[k]
		keeps = keeps && holdsIn(x, s.share) && sum <= s.most
	}
	return tensions, keeps
}

// setUpAnswer is what the search should find, and how many nodes it has.
type setUpAnswer struct {
	best         []int64
	spread       int64
	count, nodes int64
}

// answer looks at all ways to give gauges to the first strings, fewer strings before more.
func (s setUpTask) answer() setUpAnswer {
	a := setUpAnswer{best: []int64{}, spread: math.MaxInt64}
	ways := [][]int64{{}}
	for many := 0; ; many++ {
		kept := [][]int64{}
		for _, way := range ways {
			tensions, keeps := s.tensionsWith(way)
			if !keeps {
				continue
			}
			a.nodes++
			kept = append(kept, way)
			if many < len(s.list) {
				continue
			}
			a.count++
			spread := int64(0)
			if many > 1 {
				spread = slices.Max(tensions) - slices.Min(tensions)
			}
			if spread < a.spread {
				a.best, a.spread = way, spread
			}
		}
		if many == len(s.list) {
			return a
		}
		ways = nil
		for _, way := range kept {
			for _, gauge := range s.gauges[many] {
				ways = append(ways, slices.Concat(way, []int64{gauge}))
			}
		}
	}
}

func (s setUpTask) check(t *testing.T, budget int64, best []int64, spread, count, code int64) {
	t.Helper()
	name := fmt.Sprintf("%s, budget %d", s.name(), budget)
	got, gotSpread, gotCode := impl.SetUp(s.list, s.gauges, s.most, s.share, budget)
	same(t, "SetUp"+name, []any{fmt.Sprint(got), gotSpread, gotCode}, []any{fmt.Sprint(best), spread, code})
	if code == impl.ErrNotFound {
		code = impl.OK
	}
	gotCount, gotCode := impl.CountSetUps(s.list, s.gauges, s.most, s.share, budget)
	same(t, "CountSetUps"+name, []int64{gotCount, gotCode}, []int64{count, code})
}

func (s setUpTask) checkFails(t *testing.T, budget, code int64) {
	t.Helper()
	s.check(t, budget, nil, 0, 0, code)
}

// checkTells checks what is found, and that it needs just so many nodes.
func (s setUpTask) checkTells(t *testing.T, best []int64, spread, count, nodes int64) {
	t.Helper()
	code := int64(impl.OK)
	if count == 0 {
		code = impl.ErrNotFound
	}
	for _, budget := range []int64{nodes, nodes + 1, 19999, 20000} {
		s.check(t, budget, best, spread, count, code)
	}
	for _, budget := range []int64{1, nodes / 2, nodes - 1} {
		if 1 <= budget && budget < nodes {
			s.checkFails(t, budget, impl.ErrFull)
		}
	}
}

// checkByDefinition checks both functions by looking at all ways, and that what is found keeps all bounds.
func (s setUpTask) checkByDefinition(t *testing.T) setUpAnswer {
	t.Helper()
	a := s.answer()
	if a.count == 0 {
		s.checkTells(t, nil, 0, 0, a.nodes)
		return a
	}
	s.checkTells(t, a.best, a.spread, a.count, a.nodes)
	found, _, _ := impl.SetUp(s.list, s.gauges, s.most, s.share, impl.MaxBudget)
	strings := slices.Clone(s.list)
	for k, gauge := range found {
		strings[k].Gauge = gauge
		if !slices.Contains(s.gauges[k], gauge) {
			t.Errorf("SetUp%s: %d is no gauge of the string %d", s.name(), gauge, k)
		}
	}
	breaking, code := impl.BreakingStrings(strings, s.share)
	same(t, "strings that break"+s.name(), []int64{int64(len(breaking)), code}, []int64{0, impl.OK})
	sum, code := impl.TotalTension(strings)
	same(t, "all tensions"+s.name(), []any{sum <= s.most, code}, []any{true, int64(impl.OK)})
	return a
}

// someGauges are different gauges in ascending order, at most so many.
func someGauges(random *rand.Rand, many int, greatest int64) []int64 {
	list := make([]int64, many)
	for k := range list {
		list[k] = 1 + random.Int63n(greatest)
	}
	slices.Sort(list)
	return slices.Compact(list)
}

// randomTask has strings whose tensions lie near to one another, and bounds that some of them keep.
func randomTask(random *rand.Rand) setUpTask {
	s := setUpTask{share: 1 + random.Int63n(1000)}
	most := int64(0)
	for range random.Intn(5) {
		x := cord(500+random.Int63n(6000), 300+random.Int63n(201), 1+random.Int63n(10000), 1)
		least, greatest := int64(math.MaxInt64), int64(0)
		some := someGauges(random, random.Intn(7), 1+random.Int63n(3000))
		for _, gauge := range some {
			x.Gauge = gauge
			least, greatest = min(least, tensionIn(x)), max(greatest, tensionIn(x))
		}
		x.Gauge, x.Strength = 1+random.Int63n(10000), 1+random.Int63n(500000)
		if len(some) > 0 {
			most += least + random.Int63n(greatest-least+1)
			x.Strength = min(500000, max(1, 1000*(least+random.Int63n(2*(greatest-least)+1))/s.share))
		}
		s.list, s.gauges = append(s.list, x), append(s.gauges, some)
	}
	s.most = min(2000000, most)
	if random.Intn(4) == 0 {
		s.most = 2000000
	}
	return s
}

func TestPromise10SetUpsKeepAllBounds(t *testing.T) {
	random := rand.New(rand.NewSource(131))
	found, none, cut := 0, 0, 0
	for range 3000 {
		s := randomTask(random)
		a := s.checkByDefinition(t)
		if a.count > 1 {
			found++
		}
		if a.count == 0 {
			none++
		}
		all := int64(1)
		for _, some := range s.gauges {
			all *= int64(len(some))
		}
		if 0 < a.count && a.count < all {
			cut++
		}
	}
	if min(found, none, cut) < 300 {
		t.Errorf("too few tasks of a kind: %d with some set-ups, %d without any, %d with bounds that matter", found, none, cut)
	}
}

// evenTask has strings with tensions of 1000 times their gauges, all of which hold.
func evenTask(gauges [][]int64) setUpTask {
	return setUpTask{slices.Repeat([]impl.Cord{cord(10000, 500, 1, 500000)}, len(gauges)), gauges, 2000000, 1000}
}

func TestPromise10SetUpTellsItsValue(t *testing.T) {
	x, _ := impl.ReadString("4400,325,600,90000")
	list := []impl.Cord{x, cord(6593, 325, 250, 90000)}
	gauges := [][]int64{{500, 600}, {250, 300}}
	for _, c := range []struct {
		most, share          int64
		best                 []int64
		spread, count, nodes int64
	}{
		{100000, 600, []int64{600, 250}, 3165, 2, 5}, {90000, 600, []int64{500, 250}, 5015, 1, 4}, {80000, 600, nil, 0, 0, 3}, {100000, 1000, []int64{600, 250}, 3165, 3, 6}, {110000, 1000, []int64{600, 250}, 3165, 4, 7},
		// The sum of the tensions of 600 and 250 is just at most 94991, and of the others 86811, 95993 and 104173.
		{94991, 600, []int64{600, 250}, 3165, 2, 5}, {94990, 600, []int64{500, 250}, 5015, 1, 4}, {86811, 600, []int64{500, 250}, 5015, 1, 4}, {86810, 600, nil, 0, 0, 3}, {49078, 600, nil, 0, 0, 3}, {49077, 600, nil, 0, 0, 2}, {40898, 600, nil, 0, 0, 2}, {40897, 600, nil, 0, 0, 1},
		{95992, 1000, []int64{600, 250}, 3165, 2, 5}, {95993, 1000, []int64{600, 250}, 3165, 3, 6}, {104172, 1000, []int64{600, 250}, 3165, 3, 6}, {104173, 1000, []int64{600, 250}, 3165, 4, 7}, {2000000, 1000, []int64{600, 250}, 3165, 4, 7},
		{0, 600, nil, 0, 0, 1}, {2000000, 0, nil, 0, 0, 1}, {0, 0, nil, 0, 0, 1},
	} {
		s := setUpTask{list, gauges, c.most, c.share}
		s.checkTells(t, c.best, c.spread, c.count, c.nodes)
		s.checkByDefinition(t)
	}
}

func TestPromise10FirstSetUpsOfSeveral(t *testing.T) {
	for _, c := range []struct {
		gauges       [][]int64
		best         []int64
		spread       int64
		count, nodes int64
	}{
		// Each gauge is a tension of 1000 times itself: all strings with the same one have the difference 0.
		{[][]int64{{3, 5}, {3, 5}}, []int64{3, 3}, 0, 4, 7}, {[][]int64{{3, 5}, {4}}, []int64{3, 4}, 1000, 2, 5}, {[][]int64{{4}, {3, 5}}, []int64{4, 3}, 1000, 2, 4}, {[][]int64{{1, 9}, {5}, {4, 6}}, []int64{1, 5, 4}, 4000, 4, 9},
		{[][]int64{{1, 9}, {5}, {4, 7}}, []int64{1, 5, 4}, 4000, 4, 9}, {[][]int64{{1, 8}, {5}, {4, 7}}, []int64{8, 5, 7}, 3000, 4, 9}, {[][]int64{{2, 8}, {5}, {1, 9}}, []int64{2, 5, 1}, 4000, 4, 9}, {[][]int64{{2, 8}, {2, 8}, {8}}, []int64{8, 8, 8}, 0, 4, 11},
		{[][]int64{{1, 2, 3}, {1, 2, 3}, {1, 2, 3}, {1, 2, 3}}, []int64{1, 1, 1, 1}, 0, 81, 121}, {[][]int64{{2, 3}, {1, 4}, {2, 3}, {1, 4}}, []int64{2, 1, 2, 1}, 1000, 16, 31}, {[][]int64{{5}, {1, 5}, {5}, {1, 5}}, []int64{5, 5, 5, 5}, 0, 4, 10},
		// The difference is one of any two strings, not only of those that follow one another.
		{[][]int64{{1}, {2}, {3, 4}, {4}}, []int64{1, 2, 3, 4}, 3000, 2, 7}, {[][]int64{{5, 6}, {7}, {9}}, []int64{6, 7, 9}, 3000, 2, 7}, {[][]int64{{9}, {7}, {5, 6}}, []int64{9, 7, 6}, 3000, 2, 5},
		// One string has no difference, so that its first gauge counts.
		{[][]int64{{7, 8, 9}}, []int64{7}, 0, 3, 4}, {[][]int64{{9}}, []int64{9}, 0, 1, 2}, {nil, nil, 0, 1, 1},
		// A string without gauges.
		{[][]int64{{}}, nil, 0, 0, 1}, {[][]int64{{1, 2, 3}, {}}, nil, 0, 0, 4}, {[][]int64{{}, {1, 2, 3}}, nil, 0, 0, 1}, {[][]int64{{1, 2}, nil, {3}}, nil, 0, 0, 3},
	} {
		s := evenTask(c.gauges)
		s.checkTells(t, c.best, c.spread, c.count, c.nodes)
		s.checkByDefinition(t)
	}
	// Gauges that differ may have the same tension: 5 to 14 have the tension 1, and 15 has 2.
	light := slices.Repeat([]impl.Cord{cord(1000, 50, 1, 10)}, 2)
	setUpTask{light, [][]int64{{15, 16}, {5, 14, 15}}, 100, 1000}.checkTells(t, []int64{15, 15}, 0, 6, 9)
	setUpTask{light, [][]int64{{4, 5, 14}, {6, 13}}, 100, 1000}.checkTells(t, []int64{5, 6}, 0, 6, 10)
	setUpTask{light, [][]int64{{1, 2, 4}, {3, 4}}, 0, 0}.checkTells(t, []int64{1, 3}, 0, 6, 10)
	setUpTask{light, [][]int64{{1, 2, 5}, {3, 4, 5}}, 0, 1000}.checkTells(t, []int64{1, 3}, 0, 4, 7)
}

func TestPromise10SetUpsAtTheLimits(t *testing.T) {
	strong := cord(5000, 500, 1, 500000)
	six := []int64{1995, 1996, 1997, 1998, 1999, 2000}
	s := setUpTask{slices.Repeat([]impl.Cord{strong}, 4), slices.Repeat([][]int64{six}, 4), 2000000, 1000}
	// All ways keep the bounds: 1, 6, 36, 216 and 1296 nodes.
	s.checkTells(t, []int64{1995, 1995, 1995, 1995}, 0, 1296, 1555)
	s.most = 1999999
	s.checkTells(t, []int64{1995, 1995, 1995, 1995}, 0, 1295, 1554)
	s.share = 999
	s.checkTells(t, []int64{1995, 1995, 1995, 1995}, 0, 256, 341)
	heaviest := setUpTask{slices.Repeat([]impl.Cord{strong}, 4), slices.Repeat([][]int64{{2000}}, 4), 2000000, 1000}
	heaviest.checkTells(t, []int64{2000, 2000, 2000, 2000}, 0, 1, 5)
	heaviest.most = 1999999
	heaviest.checkTells(t, nil, 0, 0, 4)
	heaviest.most, heaviest.share = 2000000, 999
	heaviest.checkTells(t, nil, 0, 0, 1)
	// Gauges at both ends of their range; 2 and 10000 are a tension of 500 and of 2500000, with which none holds.
	ends := setUpTask{[]impl.Cord{strong, strong}, [][]int64{{1, 10000}, {2, 9999}}, 2000000, 1000}
	ends.checkTells(t, []int64{1, 2}, 250, 1, 3)
	slack := cord(1, 1, 1, 1)
	setUpTask{[]impl.Cord{slack, slack}, [][]int64{{1, 10000}, {1, 9999, 10000}}, 0, 0}.checkTells(t, []int64{1, 1}, 0, 6, 9)
	// The own gauge of a string does not matter.
	for _, gauge := range []int64{1, 2000, 10000} {
		x := strong
		x.Gauge = gauge
		setUpTask{[]impl.Cord{x, x}, [][]int64{{1990, 2000}, {1999}}, 2000000, 1000}.checkTells(t, []int64{2000, 1999}, 250, 2, 5)
	}
}

func TestPromise10GaugesThatAreNotAsStated(t *testing.T) {
	x := cord(4400, 325, 600, 90000)
	good := [][]int64{{500, 600}, {250, 300}}
	wrong := [][]int64{{500, 500}, {600, 500}, {1, 2, 2}, {1, 3, 2}, {2, 1, 3}, {0}, {0, 1}, {-1, 500}, {10001}, {500, 10001}, {1, 2, 3, 4, 5, 6, 7}, {math.MinInt64}, {math.MaxInt64}, {math.MinInt64, math.MaxInt64}, {math.MaxInt64, math.MinInt64}, make([]int64, 7), make([]int64, 1000)}
	list := []impl.Cord{x, x}
	var tasks []setUpTask
	for _, some := range wrong {
		for _, gauges := range [][][]int64{{some, {500}}, {{500}, some}, {some, some}, {{}, some}, {some, {}}} {
			tasks = append(tasks, setUpTask{list, gauges, 100000, 600}, setUpTask{list, gauges, 0, 0})
		}
	}
	for _, gauges := range [][][]int64{nil, {}, good[:1], slices.Concat(good, good[:1]), {{500}, {500}, {}}, {{500}, {500}, nil}, slices.Repeat(good[:1], 1000)} {
		tasks = append(tasks, setUpTask{list, gauges, 100000, 600})
	}
	for many := range 5 {
		for lists := range 7 {
			if many != lists {
				tasks = append(tasks, setUpTask{slices.Repeat(list[:1], many), slices.Repeat(good[:1], lists), 2000000, 1000})
			}
		}
	}
	for _, s := range tasks {
		s.checkFails(t, 1, impl.ErrOrder)
		s.checkFails(t, 20000, impl.ErrOrder)
		checkSetUpRanges(t, s)
		broken := setUpTask{slices.Concat(s.list, []impl.Cord{{}}), s.gauges, s.most, s.share}
		broken.checkFails(t, 1, impl.ErrInvalid)
	}
}

// checkSetUpRanges checks that each number that is not as stated is seen before all but strings that are wrong.
func checkSetUpRanges(t *testing.T, s setUpTask) {
	t.Helper()
	for _, most := range slices.Concat([]int64{-2, -1, 2000001}, beyond32) {
		setUpTask{s.list, s.gauges, most, s.share}.checkFails(t, 1, impl.ErrRange)
	}
	for _, share := range slices.Concat([]int64{-2, -1, 1001}, beyond32) {
		setUpTask{s.list, s.gauges, s.most, share}.checkFails(t, 1, impl.ErrRange)
	}
	for _, budget := range slices.Concat([]int64{-1, 0, 20001}, beyond32) {
		s.checkFails(t, budget, impl.ErrRange)
	}
}

func TestPromise10SetUpsOrderOfErrors(t *testing.T) {
	x := cord(4400, 325, 600, 90000)
	list, gauges := []impl.Cord{x, x}, [][]int64{{500, 600}, {500, 600}}
	for _, s := range []setUpTask{{list, gauges, 100000, 600}, {list, gauges, 0, 0}, {nil, nil, 0, 0}, {list[:1], [][]int64{{}}, 2000000, 1000}} {
		checkSetUpRanges(t, s)
	}
	// Too few nodes are told before it is known that there is nothing to be found.
	setUpTask{list, [][]int64{{500, 600}, {}}, 100000, 600}.checkFails(t, 2, impl.ErrFull)
	setUpTask{list, [][]int64{{500, 600}, {}}, 100000, 600}.check(t, 3, nil, 0, 0, impl.ErrNotFound)
	setUpTask{list, gauges, 2000000, 1000}.checkFails(t, 6, impl.ErrFull)
	setUpTask{list, gauges, 2000000, 1000}.check(t, 7, []int64{500, 500}, 0, 4, impl.OK)
}
