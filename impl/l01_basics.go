package impl

import (
	"cmp"
	"math/bits"
	"slices"
	"sort"
	"strconv"
	"strings"
)

// Constants of chapter 1.
const (
	OK           = 0
	ErrInvalid   = 1
	ErrRange     = 2
	ErrNotFound  = 3
	ErrExists    = 4
	ErrFull      = 5
	ErrState     = 6
	ErrOrder     = 7
	ErrSyntax    = 8
	ErrFormat    = 9
	ErrChecksum  = 10
	ErrTruncated = 11
	MaxName      = 10
	MaxList      = 64
	MaxBudget    = 20000
	MaxValue     = 1000000000000
	CrcStart     = 65535
)

// Limits that chapter 1 states without a name.
const (
	maxDigits  = 18
	maxBlend   = 1000000
	maxCrc     = 65535
	crcDivisor = 4129
	emptyList  = "-"
)

// within reports whether a value is from least to greatest.
func within[T cmp.Ordered](value, least, greatest T) bool {
	return least <= value && value <= greatest
}

// allWithin reports whether each number of a list is from least to greatest.
func allWithin(list []int64, least, greatest int64) bool {
	return !slices.ContainsFunc(list, func(n int64) bool { return !within(n, least, greatest) })
}

// validList reports whether a list has at most so many elements, all of them valid, and strictly
// increasing by their keys.
func validList[T any, K cmp.Ordered](list []T, most int, valid func(T) bool, key func(T) K) bool {
	if len(list) > most {
		return false
	}
	for k, x := range list {
		if !valid(x) || k > 0 && key(list[k-1]) >= key(x) {
			return false
		}
	}
	return true
}

// isBudget reports whether a search may have so many nodes.
func isBudget(budget int64) bool { return within(budget, 1, MaxBudget) }

// nodeCount has the number of nodes that a search may still visit.
type nodeCount struct{ left int64 }

// visit panics at the first node too many, which ends a search however deep it is.
func (n *nodeCount) visit() {
	if n.left == 0 {
		panic("more nodes than the budget")
	}
	n.left--
}

// withinBudget runs a search, which calls visit at each of its nodes, and reports whether it came
// to its end.
func withinBudget(budget int64, search func(visit func())) (ended bool) {
	defer func() {
		if recover() != nil {
			ended = false
		}
	}()
	nodes := nodeCount{left: budget}
	search(nodes.visit)
	return true
}

// leastFrom returns the least number from least to most that is enough, where all that are greater
// are enough too; ErrNotFound if none is.
func leastFrom(least, most int64, isEnough func(n int64) bool) (int64, int64) {
	tooLow := sort.Search(int(most-least)+1, func(k int) bool { return isEnough(least + int64(k)) })
	n := least + int64(tooLow)
	if n > most {
		return 0, ErrNotFound
	}
	return n, OK
}

// leastTimes returns how often a positive number must be taken, at least, to reach a goal.
func leastTimes(each, goal int64) int64 { return (max(0, goal) + each - 1) / each }

// firstGreatest returns the index of the greatest of so many numbers, the first one of several, and
// this number.
func firstGreatest(many int64, numberAt func(k int64) int64) (int64, int64) {
	index, greatest := int64(0), numberAt(0)
	for k := range many {
		if n := numberAt(k); n > greatest {
			index, greatest = k, n
		}
	}
	return index, greatest
}

// CodeName returns the name of an error code.
func CodeName(code int64) string {
	names := [...]string{
		OK:           "ok",
		ErrInvalid:   "invalid",
		ErrRange:     "range",
		ErrNotFound:  "not-found",
		ErrExists:    "exists",
		ErrFull:      "full",
		ErrState:     "state",
		ErrOrder:     "order",
		ErrSyntax:    "syntax",
		ErrFormat:    "format",
		ErrChecksum:  "checksum",
		ErrTruncated: "truncated",
	}
	if !within(code, OK, ErrTruncated) {
		return ""
	}
	return names[code]
}

// IsName reports whether s is a name.
func IsName(s string) bool {
	if !within(len(s), 1, MaxName) || !isLetter(s[0]) {
		return false
	}
	for k := range len(s) {
		if !isLetter(s[k]) && !isDigit(s[k]) {
			return false
		}
	}
	return true
}

func isLetter(b byte) bool { return within(b, 'a', 'z') }

func isDigit(b byte) bool { return within(b, '0', '9') }

// Decimal returns a number in decimal.
func Decimal(n int64) string { return strconv.FormatInt(n, 10) }

// ReadDecimal returns the number with a decimal form.
func ReadDecimal(s string) (int64, bool) {
	if len(strings.TrimPrefix(s, "-")) > maxDigits {
		return 0, false
	}
	n, err := strconv.ParseInt(s, 10, 64)
	// ParseInt also accepts a plus sign, leading zeros and "-0", which Decimal never writes.
	if err != nil || Decimal(n) != s {
		return 0, false
	}
	return n, true
}

// SplitWords divides a line at blanks.
func SplitWords(s string) []string {
	return strings.FieldsFunc(s, func(r rune) bool { return r == ' ' })
}

// ListText returns a list of numbers as text.
func ListText(list []int64) string {
	if len(list) == 0 {
		return emptyList
	}
	if len(list) > MaxList {
		return ""
	}
	parts := make([]string, len(list))
	for k, n := range list {
		if !isValue(n) {
			return ""
		}
		parts[k] = Decimal(n)
	}
	return strings.Join(parts, ",")
}

// ReadList returns the list with a text.
func ReadList(s string) ([]int64, bool) {
	if s == emptyList {
		return []int64{}, true
	}
	// One part more than a list may have is enough to see that it is too long.
	parts := strings.SplitN(s, ",", MaxList+1)
	if len(parts) > MaxList {
		return nil, false
	}
	list := make([]int64, len(parts))
	for k, part := range parts {
		n, ok := ReadDecimal(part)
		if !ok || !isValue(n) {
			return nil, false
		}
		list[k] = n
	}
	return list, true
}

// readNumbers returns the list with a text, if it has so many numbers.
func readNumbers(s string, many int) ([]int64, bool) {
	list, ok := ReadList(s)
	if !ok || len(list) != many {
		return nil, false
	}
	return list, true
}

// namedText returns an Id, a blank and the ListText of numbers.
func namedText(id string, numbers ...int64) string { return id + " " + ListText(numbers) }

// readNamed reads what namedText returns for so many numbers. The Id is not examined.
func readNamed(s string, many int) (id string, numbers []int64, ok bool) {
	id, rest, _ := strings.Cut(s, " ")
	numbers, ok = readNumbers(rest, many)
	return id, numbers, ok
}

func isValue(n int64) bool { return within(n, -MaxValue, MaxValue) }

// Crc16 returns the check value of bytes.
func Crc16(s string, start int64) int64 {
	if !within(start, 0, maxCrc) {
		return 0
	}
	crc := start
	for k := range len(s) {
		crc ^= int64(s[k]) * 256
		for range 8 {
			crc *= 2
			if crc > maxCrc {
				crc = crc&maxCrc ^ crcDivisor
			}
		}
	}
	return crc
}

// RootOf returns the square root, rounded down.
func RootOf(n int64) int64 {
	if n < 0 {
		return 0
	}
	// The bits of the root are tried from the highest one that it can have; the squares are
	// unsigned because the one of a root that is too great may not fit into an int64.
	square, root := uint64(n), uint64(0)
	for bit := uint64(1) << (bits.Len64(square) / 2); bit > 0; bit /= 2 {
		if next := root + bit; next*next <= square {
			root = next
		}
	}
	return int64(root)
}

// DivRound returns the nearest quotient.
func DivRound(a, b int64) int64 {
	if !isValue(a) || !isValue(b) {
		return 0
	}
	return nearest(a, b)
}

// nearest is DivRound without its limits, which do not hold for the formulas of later chapters.
func nearest(a, b int64) int64 {
	if b == 0 {
		return 0
	}
	quotient, rest := a/b, magnitude(a%b)
	if rest < magnitude(b)-rest {
		return quotient
	}
	if (a < 0) != (b < 0) {
		return quotient - 1
	}
	return quotient + 1
}

// magnitude is unsigned because the absolute value of the smallest int64 is no int64.
func magnitude(n int64) uint64 {
	if n < 0 {
		return -uint64(n)
	}
	return uint64(n)
}

// Blend returns a number on a line through two points.
func Blend(x0, y0, x1, y1, x int64) int64 {
	for _, n := range [...]int64{x0, y0, x1, y1} {
		if !within(n, -maxBlend, maxBlend) {
			return 0
		}
	}
	return onLine(x0, y0, x1, y1, x)
}

// onLine is Blend without its limits, which do not hold where later chapters use it.
func onLine(x0, y0, x1, y1, x int64) int64 {
	if x <= x0 || x1 <= x0 {
		return y0
	}
	if x >= x1 {
		return y1
	}
	return y0 + nearest((y1-y0)*(x-x0), x1-x0)
}

// heightsBetween returns the heights of a line at the ends of so many equal parts of it.
func heightsBetween(from, to, parts int64) []int64 {
	heights := make([]int64, parts+1)
	for k := range heights {
		heights[k] = onLine(0, from, parts, to, int64(k))
	}
	return heights
}
