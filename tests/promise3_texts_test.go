package tests

import (
	"fmt"
	"math"
	"math/big"
	"math/rand"
	"regexp"
	"strings"
	"testing"

	"loop.example/g01061/impl"
)

// noUnits are numbers that are too great, or too small, for the texts of chapter 2.
var noUnits = []int64{math.MinInt64, math.MinInt64 + 1, -impl.MaxUnit - 1, impl.MaxUnit + 1, 1 << 32, impl.MaxValue, math.MaxInt64 - 1, math.MaxInt64}

// unitValues are numbers of all sizes from 0 to MaxUnit.
func unitValues() []int64 {
	values := []int64{impl.MaxUnit - 1, impl.MaxUnit}
	for n := range int64(4000) {
		values = append(values, n)
	}
	random := rand.New(rand.NewSource(6))
	for size := int64(10); size < impl.MaxUnit; size *= 10 {
		values = append(values, size-1, size, size+1)
		for range 200 {
			values = append(values, random.Int63n(10*size))
		}
	}
	return values
}

// checkText checks a text, and that it is read as its number.
func checkText(t *testing.T, name string, text string, want string, n int64, read func(string) (int64, bool)) {
	t.Helper()
	same(t, fmt.Sprintf("%s text of %d", name, n), text, want)
	got, ok := read(want)
	same(t, fmt.Sprintf("%s number of %q", name, want), []any{got, ok}, []any{n, true})
}

// checkOnlyCanonical checks that of all given texts just those are read that are in a form, and as the number that has them.
func checkOnlyCanonical(t *testing.T, name string, texts []string, isText func(string) bool, read func(string) (int64, bool), textOf func(int64) string) {
	t.Helper()
	for _, s := range texts {
		n, ok := read(s)
		same(t, fmt.Sprintf("%s of %q", name, s), ok, isText(s))
		if ok && textOf(n) != s || !ok && n != 0 {
			t.Errorf("%s of %q: returns %d", name, s, n)
		}
	}
}

func TestPromise3ClockTexts(t *testing.T) {
	for minute := range int64(1440) {
		checkText(t, "clock", impl.ClockText(minute), fmt.Sprintf("%02d:%02d", minute/60, minute%60), minute, impl.ReadClock)
	}
	same(t, "clock texts", []string{impl.ClockText(0), impl.ClockText(605), impl.ClockText(1439)}, []string{"00:00", "10:05", "23:59"})
	for _, minute := range append([]int64{-1440, -60, -1, 1440, 1441, 86399}, noUnits...) {
		same(t, fmt.Sprintf("ClockText(%d)", minute), impl.ClockText(minute), "")
	}
}

func TestPromise3ReadClockRefuses(t *testing.T) {
	form := regexp.MustCompile(`\A([01][0-9]|2[0-3]):[0-5][0-9]\z`)
	checkOnlyCanonical(t, "ReadClock", shortTexts("02469:-", 5), form.MatchString, impl.ReadClock, impl.ClockText)
	checkRefused(t, "ReadClock", impl.ReadClock, []string{
		"", ":", "10", "10:5", "1:05", "010:05", "10:005", "10:05:00", "24:00", "23:60", "00:61", "99:99", "10:05 ", " 10:05", "10:05\n", "10: 5", "10 :05",
		"-1:05", "+1:05", "10:-5", "10:+5", "10.05", "10-05", "1a:05", "10:0x", "0:605", "00:605", "10::05", "\u0661\u0660:05", "4294967296:00", "307445734561825861:00",
	})
}

// fixedText is FixedText of numbers within its limits.
func fixedText(n, places int64) string {
	one := new(big.Int).Exp(big.NewInt(10), big.NewInt(places), nil)
	return new(big.Rat).SetFrac(big.NewInt(n), one).FloatString(int(places))
}

func readFixedTo(places int64) func(string) (int64, bool) {
	return func(s string) (int64, bool) { return impl.ReadFixed(s, places) }
}

func TestPromise3FixedTexts(t *testing.T) {
	for places := int64(1); places <= 6; places++ {
		for _, n := range unitValues() {
			checkText(t, "fixed", impl.FixedText(n, places), fixedText(n, places), n, readFixedTo(places))
			checkText(t, "fixed", impl.FixedText(-n, places), fixedText(-n, places), -n, readFixedTo(places))
		}
		for _, n := range noUnits {
			same(t, fmt.Sprintf("FixedText(%d, %d)", n, places), impl.FixedText(n, places), "")
		}
	}
	for _, places := range []int64{math.MinInt64, -6, -1, 0, 7, 8, 18, 1 << 32, math.MaxInt64} {
		for _, n := range []int64{0, 5, -5, 12345, impl.MaxUnit} {
			same(t, fmt.Sprintf("FixedText(%d, %d)", n, places), impl.FixedText(n, places), "")
		}
		checkRefused(t, fmt.Sprintf("ReadFixed to %d places", places), readFixedTo(places), []string{"", "0", "0.", "1.0", "12.345", "0.0000000", "0.00000000", "-0.5"})
	}
}

func TestPromise3FixedTextTellsItsValue(t *testing.T) {
	got := []string{impl.FixedText(-5, 2), impl.FixedText(0, 1), impl.FixedText(0, 6), impl.FixedText(-1, 6), impl.FixedText(12345, 3), impl.FixedText(-100, 2), impl.FixedText(9, 1),
		impl.FixedText(impl.MaxUnit, 6), impl.FixedText(-impl.MaxUnit, 1), impl.FixedText(impl.MaxUnit+1, 1), impl.FixedText(-impl.MaxUnit-1, 6)}
	same(t, "fixed texts", got, []string{"-0.05", "0.0", "0.000000", "-0.000001", "12.345", "-1.00", "0.9", "1000.000000", "-100000000.0", "", ""})
}

func TestPromise3ReadFixedRefuses(t *testing.T) {
	for places := int64(1); places <= 3; places++ {
		form := regexp.MustCompile(fmt.Sprintf(`\A-?(0|[1-9][0-9]*)\.[0-9]{%d}\z`, places))
		isText := func(s string) bool {
			return form.MatchString(s) && strings.Trim(s, "-0.") != "" || s == "0."+strings.Repeat("0", int(places))
		}
		textOf := func(n int64) string { return fixedText(n, places) }
		checkOnlyCanonical(t, fmt.Sprintf("ReadFixed to %d places", places), shortTexts("-+05. ", 6), isText, readFixedTo(places), textOf)
	}
	checkRefused(t, "ReadFixed to 2 places", readFixedTo(2), []string{
		"", ".", "-", "-.", "12", "12.", "12.3", "12.345", ".34", "-.34", "012.34", "-012.34", "-0.00", "+1.00", "--1.00", "1.-5", "1.+5", "1.0x", "1,00", "1.00 ", " 1.00",
		"1.00\n", "1.0.0", "1..00", "1_0.00", "1e2.00", "\u06611.00", "10000000.01", "-10000000.01", "4294967296.00", "42949672.96", "1844674407370955161.60", "1.4294967296", "0.4294967296",
	})
	checkRefused(t, "ReadFixed to 6 places", readFixedTo(6), []string{"1000.000001", "-1000.000001", "1000.0000000", "1000.00000", "-0.000000", "0.0000001"})
	checkRefused(t, "ReadFixed to 1 place", readFixedTo(1), []string{"100000000.1", "-100000000.1", "0.00", "-0.0", "35.50", "35"})
}

func TestPromise3LapTexts(t *testing.T) {
	for _, seconds := range unitValues() {
		checkText(t, "lap", impl.LapText(seconds), fmt.Sprintf("%d:%02d", seconds/60, seconds%60), seconds, impl.ReadLap)
	}
	got := []string{impl.LapText(545), impl.LapText(0), impl.LapText(59), impl.LapText(60), impl.LapText(3600), impl.LapText(impl.MaxUnit)}
	same(t, "lap texts", got, []string{"9:05", "0:00", "0:59", "1:00", "60:00", "16666666:40"})
	for _, seconds := range append([]int64{-3600, -60, -1}, noUnits...) {
		same(t, fmt.Sprintf("LapText(%d)", seconds), impl.LapText(seconds), "")
	}
}

func TestPromise3ReadLapRefuses(t *testing.T) {
	form := regexp.MustCompile(`\A(0|[1-9][0-9]*):[0-5][0-9]\z`)
	checkOnlyCanonical(t, "ReadLap", shortTexts("0156:-", 5), form.MatchString, impl.ReadLap, impl.LapText)
	checkRefused(t, "ReadLap", impl.ReadLap, []string{
		"", ":", ":05", "9:", "9", "9:5", "09:05", "9:005", "9:60", "9:99", "-9:05", "+9:05", "9:-5", "9:+5", "9:05 ", " 9:05", "9:05\n", "9: 5", "9.05", "9:05:00", "x:05",
		"16666666:41", "16666667:00", "4294967295:59", "4294967296:00", "71582788:16", "307445734561825861:00", "9:4294967296",
	})
}

func TestPromise3LengthTexts(t *testing.T) {
	for _, tenths := range unitValues() {
		checkText(t, "length", impl.LengthText(tenths), fmt.Sprintf("%d.%d mm", tenths/10, tenths%10), tenths, impl.ReadLength)
	}
	got := []string{impl.LengthText(355), impl.LengthText(0), impl.LengthText(9), impl.LengthText(10), impl.LengthText(impl.MaxUnit), impl.LengthText(-1)}
	same(t, "length texts", got, []string{"35.5 mm", "0.0 mm", "0.9 mm", "1.0 mm", "100000000.0 mm", ""})
	for _, tenths := range append([]int64{-355, -10, -1, -impl.MaxUnit}, noUnits...) {
		same(t, fmt.Sprintf("LengthText(%d)", tenths), impl.LengthText(tenths), "")
	}
}

func TestPromise3ReadLengthRefuses(t *testing.T) {
	form := regexp.MustCompile(`\A(0|[1-9][0-9]*)\.[0-9] mm\z`)
	texts := shortTexts("-05. ", 4)
	for _, s := range shortTexts("-05. ", 4) {
		texts = append(texts, s+" mm", s+" m", s+"mm", s+" mm ")
	}
	checkOnlyCanonical(t, "ReadLength", texts, form.MatchString, impl.ReadLength, impl.LengthText)
	checkRefused(t, "ReadLength", impl.ReadLength, []string{
		"", " mm", "mm", "35.5", "35.5mm", "35.5  mm", " 35.5 mm", "35.5 mm ", "35.5 mm\n", "35.5\tmm", "35.5 MM", "35.5 cm", "35.5 m", "35 mm", "35. mm", ".5 mm", "35.50 mm", "035.5 mm",
		"-0.0 mm", "-0.5 mm", "-35.5 mm", "+35.5 mm", "35.5 mm mm", "35.5 mm35.5 mm", "35,5 mm", "100000000.1 mm", "4294967296.0 mm", "429496729.6 mm", "35.5\u00a0mm",
	})
}
