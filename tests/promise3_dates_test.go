package tests

import (
	"fmt"
	"math"
	"math/rand"
	"testing"
	"time"

	"loop.example/g01061/impl"
)

// timeOf returns the time at which a day begins.
func timeOf(day int64) time.Time { return time.Date(2000, 1, 1+int(day), 0, 0, 0, 0, time.UTC) }

// noDays are numbers around the days, and the ends of int64.
var noDays = []int64{math.MinInt64, math.MinInt64 + 1, -36525, -2, -1, 36525, 36526, 100000, 1 << 32, math.MaxInt64 - 1, math.MaxInt64}

func TestPromise3Constants(t *testing.T) {
	same(t, "constants", []int64{impl.MaxDate, impl.MaxUnit}, []int64{36524, 1000000000})
}

func TestPromise3DaysAndDatesLeadToEachOther(t *testing.T) {
	for day := range int64(impl.MaxDate + 1) {
		at := timeOf(day)
		want := []int64{int64(at.Year()), int64(at.Month()), int64(at.Day()), impl.OK}
		year, month, date, code := impl.DateOf(day)
		same(t, fmt.Sprintf("DateOf(%d)", day), []int64{year, month, date, code}, want)
		back, code := impl.DayNumber(year, month, date)
		same(t, fmt.Sprintf("DayNumber(%d, %d, %d)", year, month, date), []int64{back, code}, []int64{day, impl.OK})
		weekday, code := impl.WeekdayOf(day)
		same(t, fmt.Sprintf("WeekdayOf(%d)", day), []int64{weekday, code}, []int64{(int64(at.Weekday()) + 6) % 7, impl.OK})
		same(t, fmt.Sprintf("DateText(%d)", day), impl.DateText(day), at.Format("2006-01-02"))
		read, ok := impl.ReadDate(at.Format("2006-01-02"))
		same(t, "ReadDate of "+at.Format("2006-01-02"), []any{read, ok}, []any{day, true})
	}
}

func TestPromise3DateExamples(t *testing.T) {
	for _, c := range []struct {
		day, year, month, date, weekday int64
		text                            string
	}{
		{59, 2000, 2, 29, 1, "2000-02-29"}, {0, 2000, 1, 1, 5, "2000-01-01"}, {30, 2000, 1, 31, 0, "2000-01-31"}, {31, 2000, 2, 1, 1, "2000-02-01"},
		{60, 2000, 3, 1, 2, "2000-03-01"}, {365, 2000, 12, 31, 6, "2000-12-31"}, {366, 2001, 1, 1, 0, "2001-01-01"}, {424, 2001, 2, 28, 2, "2001-02-28"},
		{425, 2001, 3, 1, 3, "2001-03-01"}, {9000, 2024, 8, 22, 3, "2024-08-22"}, {36523, 2099, 12, 30, 2, "2099-12-30"}, {36524, 2099, 12, 31, 3, "2099-12-31"},
	} {
		year, month, date, code := impl.DateOf(c.day)
		same(t, "DateOf "+c.text, []int64{year, month, date, code}, []int64{c.year, c.month, c.date, impl.OK})
		day, code := impl.DayNumber(c.year, c.month, c.date)
		same(t, "DayNumber of "+c.text, []int64{day, code}, []int64{c.day, impl.OK})
		weekday, code := impl.WeekdayOf(c.day)
		same(t, "WeekdayOf "+c.text, []int64{weekday, code}, []int64{c.weekday, impl.OK})
		same(t, "DateText", impl.DateText(c.day), c.text)
	}
}

func TestPromise3NoDays(t *testing.T) {
	for _, day := range noDays {
		year, month, date, code := impl.DateOf(day)
		same(t, fmt.Sprintf("DateOf(%d)", day), []int64{year, month, date, code}, []int64{0, 0, 0, impl.ErrRange})
		weekday, code := impl.WeekdayOf(day)
		same(t, fmt.Sprintf("WeekdayOf(%d)", day), []int64{weekday, code}, []int64{0, impl.ErrRange})
		same(t, fmt.Sprintf("DateText(%d)", day), impl.DateText(day), "")
	}
}

func checkDayNumber(t *testing.T, year, month, date int64) {
	t.Helper()
	want := []int64{0, impl.ErrRange}
	if small := max(year, month, date) < 10000 && min(year, month, date) > -10000; small {
		at := time.Date(int(year), time.Month(month), int(date), 0, 0, 0, 0, time.UTC)
		if at.Year() == int(year) && at.Month() == time.Month(month) && at.Day() == int(date) && 2000 <= year && year <= 2099 {
			want = []int64{int64(at.Sub(timeOf(0)) / (24 * time.Hour)), impl.OK}
		}
	}
	day, code := impl.DayNumber(year, month, date)
	same(t, fmt.Sprintf("DayNumber(%d, %d, %d)", year, month, date), []int64{day, code}, want)
}

func TestPromise3DayNumberOfDatesThatAreNone(t *testing.T) {
	for year := int64(1996); year <= 2104; year++ {
		for month := int64(-1); month <= 14; month++ {
			for date := int64(-1); date <= 33; date++ {
				checkDayNumber(t, year, month, date)
			}
		}
	}
	for _, far := range []int64{math.MinInt64, math.MinInt64 + 1, -2000, 366, 36525, 1 << 32, 1<<32 + 1, 1<<32 + 2000, math.MaxInt64 - 1, math.MaxInt64} {
		checkDayNumber(t, far, 1, 1)
		checkDayNumber(t, 2000, far, 1)
		checkDayNumber(t, 2000, 1, far)
		checkDayNumber(t, 2099, far, far)
		checkDayNumber(t, far, far, far)
	}
}

func TestPromise3ReadDateRefuses(t *testing.T) {
	checkRefused(t, "ReadDate", impl.ReadDate, []string{
		"", "-", "--", "2024-08", "2024-08-22-01", "2024-8-22", "2024-08-2", "2024-8-2", "02024-08-22", "2024-008-22", "2024-08-022", "24-08-22",
		" 2024-08-22", "2024-08-22 ", "2024-08-22\n", "2024 -08-22", "2024/08/22", "2024.08.22", "20240822", "2024--08-22", "-2024-08-22", "2024-08-22-",
		"+2024-08-22", "2024-+8-22", "2024-08-+2", "2024-0x-22", "2024-08-2a", "2_24-08-22", "2024-13-01", "2024-00-01", "2024-01-00", "2024-01-32",
		"2000-02-30", "2001-02-29", "2023-02-29", "2024-04-31", "2099-02-29", "1999-12-31", "2100-01-01", "0000-00-00", "9999-99-99",
		"2024-08-\u0662\u0662", "\uff12\uff10\uff12\uff14-08-22", "2024\u201308\u201322", "2024-08-22\x00", "18446744073709553616-01-01", "4294969296-01-01",
	})
	for day := range int64(800) {
		s := impl.DateText(day)
		checkRefused(t, "ReadDate", impl.ReadDate, []string{s[1:], s[:9], "0" + s, s + "0", s[:8] + "3" + s[8:], " " + s, s + " "})
	}
}

// checkRefused checks that a text is read as none.
func checkRefused(t *testing.T, name string, read func(string) (int64, bool), texts []string) {
	t.Helper()
	for _, s := range texts {
		n, ok := read(s)
		same(t, fmt.Sprintf("%s(%q)", name, s), []any{n, ok}, []any{int64(0), false})
	}
}

// workDaysBefore has for each day the number of working days before it.
func workDaysBefore() []int64 {
	before := make([]int64, impl.MaxDate+2)
	for day := range int64(impl.MaxDate + 1) {
		before[day+1] = before[day]
		if weekday := timeOf(day).Weekday(); weekday != time.Saturday && weekday != time.Sunday {
			before[day+1]++
		}
	}
	return before
}

func TestPromise3WorkDays(t *testing.T) {
	before := workDaysBefore()
	check := func(from, until int64) {
		t.Helper()
		count, code := impl.WorkDays(from, until)
		same(t, fmt.Sprintf("WorkDays(%d, %d)", from, until), []int64{count, code}, []int64{before[until] - before[from], impl.OK})
	}
	for from := range int64(40) {
		for until := from; until < 80; until++ {
			check(from, until)
		}
	}
	random := rand.New(rand.NewSource(5))
	for range 20000 {
		from := random.Int63n(impl.MaxDate + 1)
		check(from, from+random.Int63n(impl.MaxDate+2-from))
	}
	for _, c := range [][2]int64{{0, 0}, {0, impl.MaxDate}, {0, impl.MaxDate + 1}, {impl.MaxDate, impl.MaxDate}, {impl.MaxDate, impl.MaxDate + 1}, {impl.MaxDate - 3, impl.MaxDate + 1}} {
		check(c[0], c[1])
	}
}

func TestPromise3WorkDaysTellsItsValue(t *testing.T) {
	for _, c := range [][4]int64{
		{0, 7, 5, 0}, {0, 2, 0, 0}, {0, 3, 1, 0}, {2, 7, 5, 0}, {2, 9, 5, 0}, {6, 8, 1, 0}, {7, 9, 0, 0}, {5, 5, 0, 0}, {0, 36525, 26089, 0}, {36524, 36525, 1, 0},
		{-1, 7, 0, 2}, {1, 0, 0, 2}, {8, 7, 0, 2}, {0, -1, 0, 2}, {0, 36526, 0, 2}, {36525, 36525, 0, 2}, {36525, 36526, 0, 2},
		{math.MinInt64, 0, 0, 2}, {0, math.MinInt64, 0, 2}, {math.MinInt64, math.MaxInt64, 0, 2}, {0, math.MaxInt64, 0, 2}, {math.MaxInt64, math.MaxInt64, 0, 2},
	} {
		count, code := impl.WorkDays(c[0], c[1])
		same(t, fmt.Sprintf("WorkDays(%d, %d)", c[0], c[1]), []int64{count, code}, c[2:])
	}
}
