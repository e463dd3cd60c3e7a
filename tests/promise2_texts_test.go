package tests

import (
	"fmt"
	"math"
	"math/big"
	"math/rand"
	"regexp"
	"strings"
	"testing"

	"loop.example/g01061/impl"
)

func TestPromise2Constants(t *testing.T) {
	got := []int64{impl.OK, impl.ErrInvalid, impl.ErrRange, impl.ErrNotFound, impl.ErrExists, impl.ErrFull,
		impl.ErrState, impl.ErrOrder, impl.ErrSyntax, impl.ErrFormat, impl.ErrChecksum, impl.ErrTruncated,
		impl.MaxName, impl.MaxList, impl.MaxBudget, impl.MaxValue, impl.CrcStart}
	same(t, "constants", got, []int64{0, 1, 2, 3, 4, 5, 6, 7, 8, 9, 10, 11, 10, 64, 20000, 1000000000000, 65535})
}

func TestPromise2CodeName(t *testing.T) {
	names := strings.Fields("ok invalid range not-found exists full state order syntax format checksum truncated")
	for code, want := range names {
		same(t, fmt.Sprintf("CodeName(%d)", code), impl.CodeName(int64(code)), want)
	}
	for _, code := range []int64{math.MinInt64, -1, 12, 256, 1 << 32, math.MaxInt64} {
		same(t, fmt.Sprintf("CodeName(%d)", code), impl.CodeName(code), "")
	}
}

func TestPromise2IsName(t *testing.T) {
	for b := range 256 {
		letter, digit := 'a' <= b && b <= 'z', '0' <= b && b <= '9'
		one := string([]byte{byte(b)})
		same(t, fmt.Sprintf("IsName(%q)", one), impl.IsName(one), letter)
		for _, s := range []string{"a" + one, "a" + one + "9", "abcdefghi" + one} {
			same(t, fmt.Sprintf("IsName(%q)", s), impl.IsName(s), letter || digit)
		}
		same(t, fmt.Sprintf("IsName(%q)", one+"a"), impl.IsName(one+"a"), letter)
	}
	for _, s := range []string{"star7", "abcdefghij", "z999999999"} {
		same(t, "IsName of "+s, impl.IsName(s), true)
	}
	for _, s := range []string{"", "abcdefghijk", "7a", "Star", "a-b", "a b", " a", "a ", "\u00e9", "a\u00e9", strings.Repeat("a", 1000)} {
		same(t, "IsName of "+s, impl.IsName(s), false)
	}
}

func TestPromise2Decimal(t *testing.T) {
	for _, n := range numbers {
		same(t, "Decimal", impl.Decimal(n), big.NewInt(n).String())
	}
	same(t, "Decimal of the smallest int64", impl.Decimal(math.MinInt64), "-9223372036854775808")
}

func TestPromise2ReadDecimalReadsDecimal(t *testing.T) {
	list := append([]int64{-999999999999999999, 123456789012345678, -10, 10, 100}, numbers...)
	for _, n := range list {
		got, ok := impl.ReadDecimal(impl.Decimal(n))
		if within := -1000000000000000000 < n && n < 1000000000000000000; within {
			same(t, "ReadDecimal of "+impl.Decimal(n), []any{got, ok}, []any{n, true})
		} else {
			same(t, "ReadDecimal of "+impl.Decimal(n), []any{got, ok}, []any{int64(0), false})
		}
	}
}

func TestPromise2ReadDecimalRefuses(t *testing.T) {
	wrong := []string{
		"", "-", "--1", "-0", "+0", "+1", "00", "01", "-01", "-00", "000000000000000001", " 1", "1 ", "1\n", "\t1", "1_0", "1,0",
		"0x1", "1e3", "1.0", "1-", "1-1", "a", "1a", "a1", "\u0663", "\uff11", "\u22121", "1\x00", "\x001", "\xff",
		"1000000000000000000", "-1000000000000000000", "1234567890123456789", "0123456789012345678",
		"9223372036854775807", "-9223372036854775808", "9223372036854775808", "18446744073709551617",
		strings.Repeat("0", 100), strings.Repeat("9", 100),
	}
	for _, s := range wrong {
		n, ok := impl.ReadDecimal(s)
		same(t, fmt.Sprintf("ReadDecimal(%q)", s), []any{n, ok}, []any{int64(0), false})
	}
}

// shortTexts returns all texts of at most so many of the given bytes.
func shortTexts(letters string, most int) []string {
	list, last := []string{""}, []string{""}
	for range most {
		var next []string
		for _, s := range last {
			for _, c := range letters {
				next = append(next, s+string(c))
			}
		}
		list, last = append(list, next...), next
	}
	return list
}

func TestPromise2ReadsNothingButCanonicalTexts(t *testing.T) {
	decimal := regexp.MustCompile(`\A(0|-?[1-9][0-9]*)\z`)
	list := regexp.MustCompile(`\A(-|(0|-?[1-9][0-9]*)(,(0|-?[1-9][0-9]*))*)\z`)
	for _, s := range shortTexts("-+019, ", 5) {
		n, ok := impl.ReadDecimal(s)
		same(t, fmt.Sprintf("ReadDecimal(%q)", s), ok, decimal.MatchString(s))
		if ok && impl.Decimal(n) != s || !ok && n != 0 {
			t.Errorf("ReadDecimal(%q) returns %d", s, n)
		}
		numbers, ok := impl.ReadList(s)
		same(t, fmt.Sprintf("ReadList(%q)", s), ok, list.MatchString(s))
		if ok && impl.ListText(numbers) != s || !ok && len(numbers) != 0 {
			t.Errorf("ReadList(%q) returns %v", s, numbers)
		}
	}
}

func TestPromise2SplitWords(t *testing.T) {
	for s, want := range map[string][]string{
		" a  bc ": {"a", "bc"}, "a": {"a"}, "a b": {"a", "b"}, "   a": {"a"}, "a   ": {"a"},
		"a\tb\nc d": {"a\tb\nc", "d"}, "a\u00a0b c": {"a\u00a0b", "c"}, "\xff \xfe\x00": {"\xff", "\xfe\x00"},
		"\u00e9 - 1,2": {"\u00e9", "-", "1,2"}, "\r\n \v\f": {"\r\n", "\v\f"},
	} {
		same(t, fmt.Sprintf("SplitWords(%q)", s), impl.SplitWords(s), want)
	}
	for _, s := range []string{"", " ", "     "} {
		same(t, fmt.Sprintf("number of words of %q", s), len(impl.SplitWords(s)), 0)
	}
}

func TestPromise2ListText(t *testing.T) {
	most := make([]int64, impl.MaxList)
	zeros := strings.TrimSuffix(strings.Repeat("0,", impl.MaxList), ",")
	same(t, "ListText", impl.ListText([]int64{3, 0, -1}), "3,0,-1")
	same(t, "ListText of one", impl.ListText([]int64{-7}), "-7")
	same(t, "ListText of none", impl.ListText(nil), "-")
	same(t, "ListText of the most", impl.ListText(most), zeros)
	same(t, "ListText of one more", impl.ListText(append(most, 0)), "")
	same(t, "ListText of the limits", impl.ListText([]int64{impl.MaxValue, -impl.MaxValue}), "1000000000000,-1000000000000")
	for _, n := range []int64{impl.MaxValue + 1, -impl.MaxValue - 1, math.MaxInt64, math.MinInt64} {
		same(t, "ListText beyond the limits", impl.ListText([]int64{n}), "")
		same(t, "ListText beyond the limits at the end", impl.ListText([]int64{1, 2, n}), "")
	}
}

func TestPromise2ReadListReadsListText(t *testing.T) {
	random := rand.New(rand.NewSource(1))
	for length := range impl.MaxList + 1 {
		list := make([]int64, length)
		for k := range list {
			list[k] = random.Int63n(2*impl.MaxValue+1) - impl.MaxValue
			if k%5 == 0 {
				list[k] = []int64{0, -1, impl.MaxValue, -impl.MaxValue}[k/5%4]
			}
		}
		got, ok := impl.ReadList(impl.ListText(list))
		if len(got) == 0 {
			got = []int64{}
		}
		same(t, fmt.Sprintf("ReadList of %d numbers", length), []any{got, ok}, []any{list, true})
	}
}

func TestPromise2ReadListRefuses(t *testing.T) {
	wrong := []string{
		"", ",", "1,", ",1", "1,,2", "1, 2", "1 ,2", " 1", "1 ", "1,2\n", "-,1", "1,-", "--", "- ", " -", "-,-", "-0", "1,-0", "1,01", "1,+2",
		"1;2", "[1]", "1.2", "1,a", "1000000000001", "-1000000000001", "0,1000000000001", "1,9223372036854775808",
		strings.Repeat("0,", 64) + "0", strings.Repeat("0,", 64), strings.Repeat(",", 63), strings.Repeat("0,", 100000), "\u22121", "1\x00",
	}
	for _, s := range wrong {
		list, ok := impl.ReadList(s)
		same(t, fmt.Sprintf("ReadList of %s", shown(s)), []any{len(list), ok}, []any{0, false})
	}
}

// remainder is the check value by long division of polynomials: of start, shifted before all
// bytes, combined with the bytes, shifted by 16 bits.
func remainder(s string, start int64) int64 {
	n := new(big.Int).Lsh(big.NewInt(start), uint(8*len(s)))
	n.Xor(n, new(big.Int).Lsh(new(big.Int).SetBytes([]byte(s)), 16))
	for n.BitLen() > 16 {
		n.Xor(n, new(big.Int).Lsh(big.NewInt(1<<16|1<<12|1<<5|1), uint(n.BitLen()-17)))
	}
	return n.Int64()
}

func TestPromise2Crc16(t *testing.T) {
	same(t, "Crc16 of digits", impl.Crc16("123456789", impl.CrcStart), int64(0x29b1))
	same(t, "Crc16 of digits from 0", impl.Crc16("123456789", 0), int64(0x31c3))
	same(t, "Crc16 of digits from 7439", impl.Crc16("123456789", 0x1d0f), int64(0xe5cc))
	list := append([]string{"\x01", "\x00\x00", "\x80", "\xff\xff\xff"}, texts...)
	for b := range 256 {
		list = append(list, string([]byte{byte(b)}), string([]byte{byte(b), 'x', byte(255 - b)}))
	}
	for _, s := range list {
		for _, start := range []int64{0, 1, 32767, 32768, 65534, 65535} {
			same(t, fmt.Sprintf("Crc16(%s, %d)", shown(s), start), impl.Crc16(s, start), remainder(s, start))
		}
		for _, start := range []int64{math.MinInt64, -65535, -1, 65536, 1 << 32, math.MaxInt64} {
			same(t, fmt.Sprintf("Crc16(%s, %d)", shown(s), start), impl.Crc16(s, start), int64(0))
		}
	}
}
