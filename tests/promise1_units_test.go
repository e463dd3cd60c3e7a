package tests

import (
	"fmt"
	"slices"
	"testing"

	"loop.example/g01061/impl"
)

// unitNumbers are limits of chapter 2 that are just reached and just passed, and other numbers.
var unitNumbers = slices.Concat(numbers, []int64{
	4, 5, 6, 13, 28, 29, 30, 31, 32, 59, 60, 365, 366, 1000, 1439, 1440, 1999, 2000, 2024, 2099, 2100,
	impl.MaxDate, impl.MaxDate + 1, impl.MaxDate + 2, impl.MaxUnit, impl.MaxUnit + 1, -impl.MaxUnit, -impl.MaxUnit - 1,
})

// unitTexts are canonical texts of chapter 2 and texts that are far from it.
var unitTexts = slices.Concat(texts, []string{
	"2000-01-01", "2099-12-31", "2100-01-01", "2000-02-30", "00:00", "23:59", "24:00", "0.0", "-0.0", "-12.345", "0:00", "16666666:40",
	"0.0 mm", "100000000.0 mm", " mm", "-", ":", ".", "--", "::", "..", "4294967295:4294967295", "4294967296:00", "-.5", "1.-5",
})

func unitTextCalls() []namedCall {
	var calls []namedCall
	for _, s := range unitTexts {
		add := func(name string, read func(string) (int64, bool)) {
			calls = append(calls, namedCall{fmt.Sprintf("%s(%s)", name, shown(s)), func() []any { n, ok := read(s); return []any{n, ok} }})
		}
		add("ReadDate", impl.ReadDate)
		add("ReadClock", impl.ReadClock)
		add("ReadLap", impl.ReadLap)
		add("ReadLength", impl.ReadLength)
		for _, places := range unitNumbers {
			add(fmt.Sprintf("ReadFixed to %d places", places), func(s string) (int64, bool) { return impl.ReadFixed(s, places) })
		}
	}
	return calls
}

func unitNumberCalls() []namedCall {
	var calls []namedCall
	add := func(name string, call func() []any, arguments ...int64) {
		calls = append(calls, namedCall{fmt.Sprintf("%s%d", name, arguments), call})
	}
	for _, a := range unitNumbers {
		add("DateOf", func() []any { y, m, d, code := impl.DateOf(a); return []any{y, m, d, code} }, a)
		add("WeekdayOf", func() []any { n, code := impl.WeekdayOf(a); return []any{n, code} }, a)
		add("DateText", func() []any { return []any{impl.DateText(a)} }, a)
		add("ClockText", func() []any { return []any{impl.ClockText(a)} }, a)
		add("LapText", func() []any { return []any{impl.LapText(a)} }, a)
		add("LengthText", func() []any { return []any{impl.LengthText(a)} }, a)
		add("InchParts", func() []any { n, code := impl.InchParts(a); return []any{n, code} }, a)
		for _, b := range unitNumbers {
			add("FixedText", func() []any { return []any{impl.FixedText(a, b)} }, a, b)
			add("WorkDays", func() []any { n, code := impl.WorkDays(a, b); return []any{n, code} }, a, b)
			for _, c := range unitNumbers {
				add("DayNumber", func() []any { n, code := impl.DayNumber(a, b, c); return []any{n, code} }, a, b, c)
				add("PiecesFrom", func() []any { n, code := impl.PiecesFrom(a, b, c); return []any{n, code} }, a, b, c)
			}
		}
	}
	return calls
}

func TestPromise1UnitsReturnEqualResults(t *testing.T) {
	checkEqualResults(t, slices.Concat(unitTextCalls(), unitNumberCalls()))
}
