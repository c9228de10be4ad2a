package tests

import (
	"math"
	"math/big"
	"slices"
	"testing"

	"loop.example/g00708/impl"
)

// noTimes are the nearest and the furthest numbers past the times.
func noTimes() []int64 { return []int64{maxNs + 1, -maxNs - 1, math.MaxInt64, math.MinInt64} }

// upTo is the list 1, 2 .. count.
func upTo(count int) []int64 {
	list := make([]int64, count)
	for i := range list {
		list[i] = int64(i) + 1
	}
	return list
}

func turnedRound(list []int64) []int64 {
	turned := slices.Clone(list)
	slices.Reverse(turned)
	return turned
}

// plainLists are what every function of the chapter is asked with: times all of them.
func plainLists() [][]int64 {
	return [][]int64{
		{4}, {0}, {-7}, {maxNs}, {-maxNs},
		{5, 7}, {7, 5}, {3, 3}, {-3, 0}, {0, -3}, {-maxNs, maxNs}, {maxNs, maxNs}, {-maxNs, -maxNs},
		{9, -4, 7}, {1, 2, 3}, {3, 2, 1}, {2, 2, 1}, {1, 2, 2}, {maxNs, 0, -maxNs},
		{9, -4, 7, 100, 2}, {6, 6, 6, 6, 6}, {-9, -8, -8, -20}, {maxNs - 1, maxNs, maxNs, 1 - maxNs},
		upTo(15), upTo(16), turnedRound(upTo(16)), make([]int64, 16),
		{8, -8, 7, -7, 6, -6, 5, -5, 4, -4, 3, -3, 2, -2, 1, -1},
	}
}

// withAt puts n into the list at every place in turn.
func withAt(list []int64, n int64) [][]int64 {
	var all [][]int64
	for at := range len(list) + 1 {
		all = append(all, slices.Insert(slices.Clone(list), at, n))
	}
	return all
}

// listsOfNoTimes have just one that is no time, at the start, in the middle or at the end.
func listsOfNoTimes() [][]int64 {
	var all [][]int64
	for _, n := range noTimes() {
		for _, others := range [][]int64{{}, {0}, {1, 2}, {-5, maxNs, 7, -maxNs}, upTo(15)} {
			all = append(all, withAt(others, n)...)
		}
	}
	return all
}

// listsOfAllSizes are of 0 to 17 numbers, in many of which one or more are no times.
func listsOfAllSizes(seed uint64, count int) [][]int64 {
	numbers := numbersFrom(seed, 17*count)
	all := make([][]int64, count)
	for i := range all {
		all[i] = numbers[17*i:][:i%18]
	}
	return all
}

// sortedByCounting puts each number where so many are less, or alike and ahead of it.
func sortedByCounting(list []int64) []int64 {
	sorted := make([]int64, len(list))
	for i, n := range list {
		at := 0
		for j, other := range list {
			if other < n || other == n && j < i {
				at++
			}
		}
		sorted[at] = n
	}
	return sorted
}

// trimmedWant is nil where the document wants nothing.
func trimmedWant(list []int64, f int64) []int64 {
	if f < 0 || f > 16 || len(list) > 16 || int64(len(list)) <= 2*f || !timesAll(list...) {
		return nil
	}
	sorted := sortedByCounting(list)
	return sorted[f : int64(len(sorted))-f]
}

func checkSorted(t *testing.T, list []int64) {
	t.Helper()
	if got, want := impl.Sorted(list), sortedByCounting(list); !slices.Equal(got, want) {
		t.Errorf("Sorted(%v) = %v, want %v", list, got, want)
	}
}

func checkTrimmed(t *testing.T, list []int64, f int64) {
	t.Helper()
	got, is := impl.Trimmed(list, f)
	if want := trimmedWant(list, f); is != (want != nil) || !slices.Equal(got, want) {
		t.Errorf("Trimmed(%v, %d) = %v, %v, want %v", list, f, got, is, want)
	}
}

func checkMiddleOf(t *testing.T, list []int64, f int64) {
	t.Helper()
	var want *big.Int
	if left := trimmedWant(list, f); left != nil {
		sum := new(big.Int).Add(big.NewInt(left[0]), big.NewInt(left[len(left)-1]))
		want = floorBig(sum, big.NewInt(2))
	}
	got, is := impl.MiddleOf(list, f)
	if want == nil && (got != 0 || is) || want != nil && (!is || got != want.Int64()) {
		t.Errorf("MiddleOf(%v, %d) = %d, %v, want %v", list, f, got, is, want)
	}
}

func checkSpreadOf(t *testing.T, list []int64) {
	t.Helper()
	want := new(big.Int)
	for _, a := range list {
		for _, b := range list {
			if apart := new(big.Int).Sub(big.NewInt(a), big.NewInt(b)); apart.Cmp(want) > 0 {
				want = apart
			}
		}
	}
	if !timesAll(list...) || !isTime(want) {
		want = big.NewInt(-1)
	}
	if got := impl.SpreadOf(list); got != want.Int64() {
		t.Errorf("SpreadOf(%v) = %d, want %v", list, got, want)
	}
}

// counts are all f at which an answer on this list may turn, and the wrong ones.
func counts(list []int64) []int64 {
	fs := []int64{math.MinInt64, math.MinInt64 + 1, -maxNs, -17, -2, -1, maxNs, 1 << 62, 1<<62 + 1, math.MaxInt64 - 1, math.MaxInt64}
	for f := range len(list) + 2 {
		fs = append(fs, int64(f))
	}
	return fs
}

func checkMiddleAll(t *testing.T, list []int64) {
	t.Helper()
	checkSorted(t, list)
	checkSpreadOf(t, list)
	for _, f := range counts(list) {
		checkTrimmed(t, list, f)
		checkMiddleOf(t, list, f)
	}
}

func TestMaxNodes(t *testing.T) {
	if impl.MaxNodes != 16 {
		t.Errorf("MaxNodes = %d", impl.MaxNodes)
	}
}

func TestSorted(t *testing.T) {
	for _, c := range []struct{ list, want []int64 }{
		{[]int64{9, -4, 7, 100, 2}, []int64{-4, 2, 7, 9, 100}},
		{[]int64{5}, []int64{5}},
		{[]int64{7, 5}, []int64{5, 7}},
		{[]int64{5, 7}, []int64{5, 7}},
		{[]int64{3, 3}, []int64{3, 3}},
		{[]int64{1, 2, 3, 4}, []int64{1, 2, 3, 4}},
		{[]int64{4, 3, 2, 1}, []int64{1, 2, 3, 4}},
		{[]int64{2, 1, 2, 1, 2}, []int64{1, 1, 2, 2, 2}},
		{[]int64{-1, 0, -2}, []int64{-2, -1, 0}},
		{turnedRound(upTo(16)), upTo(16)},
		{[]int64{math.MaxInt64, 0, math.MinInt64, maxNs, -maxNs}, []int64{math.MinInt64, -maxNs, 0, maxNs, math.MaxInt64}},
	} {
		if got := impl.Sorted(c.list); !slices.Equal(got, c.want) {
			t.Errorf("Sorted(%v) = %v, want %v", c.list, got, c.want)
		}
	}
	for _, none := range [][]int64{nil, {}, make([]int64, 0, 4)} {
		if got := impl.Sorted(none); len(got) != 0 {
			t.Errorf("Sorted of none = %v", got)
		}
	}
}

// To sort, a list may be of any length, and of numbers that are no times.
func TestSortedOfMoreThanNodes(t *testing.T) {
	for _, count := range []int{17, 18, 100, 1000} {
		checkSorted(t, upTo(count))
		checkSorted(t, turnedRound(upTo(count)))
		checkSorted(t, make([]int64, count))
		checkSorted(t, numbersFrom(10, count))
	}
}

func TestTrimmed(t *testing.T) {
	l := []int64{9, -4, 7, 100, 2}
	for _, c := range []struct {
		list []int64
		f    int64
		want []int64
	}{
		{l, 0, []int64{-4, 2, 7, 9, 100}},
		{l, 1, []int64{2, 7, 9}},
		{l, 2, []int64{7}},
		{[]int64{5}, 0, []int64{5}},
		{[]int64{7, 5}, 0, []int64{5, 7}},
		{[]int64{8, 1, 5}, 1, []int64{5}},
		{[]int64{8, 1, 5, 3}, 1, []int64{3, 5}},
		{[]int64{2, 2, 2, 2}, 1, []int64{2, 2}},
		{[]int64{2, 2, 2, 9}, 1, []int64{2, 2}},
		{[]int64{maxNs, -maxNs, 0}, 1, []int64{0}},
		{[]int64{maxNs, -maxNs}, 0, []int64{-maxNs, maxNs}},
		{upTo(16), 0, upTo(16)},
		{turnedRound(upTo(16)), 5, []int64{6, 7, 8, 9, 10, 11}},
		{upTo(16), 7, []int64{8, 9}},
		{upTo(15), 7, []int64{8}},
	} {
		got, is := impl.Trimmed(c.list, c.f)
		if !is || !slices.Equal(got, c.want) {
			t.Errorf("Trimmed(%v, %d) = %v, %v, want %v", c.list, c.f, got, is, c.want)
		}
	}
}

// refusedCases are what Trimmed and MiddleOf both refuse.
func refusedCases() []struct {
	list []int64
	f    int64
} {
	return []struct {
		list []int64
		f    int64
	}{
		{nil, 0}, {nil, 1}, {nil, -1}, {[]int64{}, 0}, {make([]int64, 0, 4), 0}, {nil, math.MinInt64}, {nil, math.MaxInt64},
		{[]int64{5}, 1}, {[]int64{5, 7}, 1}, {[]int64{1, 2, 3}, 2}, {[]int64{1, 2, 3, 4}, 2}, {[]int64{9, -4, 7, 100, 2}, 3},
		{upTo(15), 8}, {upTo(16), 8}, {upTo(16), 16}, {upTo(16), 17},
		{[]int64{5, 7, 9}, -1}, {[]int64{5, 7, 9}, math.MinInt64}, {[]int64{5, 7, 9}, math.MaxInt64},
		// Twice these wraps round to 0, to 2 and to -2.
		{upTo(16), math.MinInt64}, {upTo(16), math.MinInt64 + 1}, {upTo(16), math.MaxInt64},
		{upTo(17), 0}, {upTo(17), 1}, {upTo(17), 8}, {make([]int64, 17), 0}, {upTo(1000), 5},
		{[]int64{maxNs + 1}, 0}, {[]int64{-maxNs - 1}, 0}, {[]int64{math.MinInt64, math.MaxInt64}, 0},
		// Even one that would be left out must be a time.
		{[]int64{maxNs + 1, 1, 2}, 1}, {[]int64{1, math.MinInt64, 2}, 1}, {[]int64{1, 2, math.MaxInt64}, 1},
	}
}

func TestTrimmedRefuses(t *testing.T) {
	for _, c := range refusedCases() {
		if got, is := impl.Trimmed(c.list, c.f); len(got) != 0 || is {
			t.Errorf("Trimmed(%v, %d) = %v, %v, want nothing and false", c.list, c.f, got, is)
		}
	}
}

func TestMiddleOf(t *testing.T) {
	l := []int64{9, -4, 7, 100, 2}
	for _, c := range []struct {
		list []int64
		f    int64
		want int64
	}{
		{l, 0, 48},
		{l, 1, 5},
		{l, 2, 7},
		{[]int64{5}, 0, 5},
		{[]int64{-5}, 0, -5},
		{[]int64{4, 4}, 0, 4},
		{[]int64{-4, -4}, 0, -4},
		{[]int64{5, 7}, 0, 6},
		{[]int64{8, 5}, 0, 6},
		{[]int64{-8, -5}, 0, -7},
		{[]int64{-3, 0}, 0, -2},
		{[]int64{3, 0}, 0, 1},
		{[]int64{-3, 4}, 0, 0},
		{[]int64{-4, 3}, 0, -1},
		{[]int64{-1, 0}, 0, -1},
		{[]int64{1, 0}, 0, 0},
		{[]int64{100, -3, 0, -100}, 1, -2},
		{[]int64{maxNs, maxNs}, 0, maxNs},
		{[]int64{-maxNs, -maxNs}, 0, -maxNs},
		{[]int64{maxNs, -maxNs}, 0, 0},
		{[]int64{maxNs, maxNs - 1}, 0, maxNs - 1},
		{[]int64{-maxNs, 1 - maxNs}, 0, -maxNs},
		{[]int64{maxNs, 1 - maxNs}, 0, 0},
		{[]int64{maxNs - 1, -maxNs}, 0, -1},
		{upTo(16), 0, 8},
		{upTo(16), 7, 8},
	} {
		if got, is := impl.MiddleOf(c.list, c.f); !is || got != c.want {
			t.Errorf("MiddleOf(%v, %d) = %d, %v, want %d", c.list, c.f, got, is, c.want)
		}
	}
}

func TestMiddleOfRefuses(t *testing.T) {
	for _, c := range refusedCases() {
		if got, is := impl.MiddleOf(c.list, c.f); got != 0 || is {
			t.Errorf("MiddleOf(%v, %d) = %d, %v, want 0, false", c.list, c.f, got, is)
		}
	}
}

func TestSpreadOf(t *testing.T) {
	for _, c := range []struct {
		list []int64
		want int64
	}{
		{nil, 0},
		{[]int64{}, 0},
		{make([]int64, 0, 4), 0},
		{[]int64{5}, 0},
		{[]int64{-5}, 0},
		{[]int64{maxNs}, 0},
		{[]int64{-maxNs}, 0},
		{[]int64{3, 3, 3}, 0},
		{[]int64{5, 7}, 2},
		{[]int64{7, 5}, 2},
		{[]int64{-7, -5}, 2},
		{[]int64{9, -4, 7, 100, 2}, 104},
		{[]int64{maxNs, 0}, maxNs},
		{[]int64{0, -maxNs}, maxNs},
		{[]int64{maxNs / 2, 0, -maxNs / 2}, maxNs},
		{[]int64{maxNs - 1, -1}, maxNs},
		{[]int64{maxNs, -1}, -1},
		{[]int64{1, -maxNs}, -1},
		{[]int64{maxNs/2 + 1, -maxNs / 2}, -1},
		{[]int64{maxNs, -maxNs}, -1},
		{[]int64{maxNs + 1}, -1},
		{[]int64{-maxNs - 1}, -1},
		{[]int64{maxNs + 1, maxNs + 1}, -1},
		{[]int64{math.MinInt64}, -1},
		{[]int64{math.MaxInt64}, -1},
		{[]int64{math.MinInt64, math.MaxInt64}, -1},
		{[]int64{math.MinInt64, math.MinInt64}, -1},
		{upTo(16), 15},
		{upTo(17), 16},
		{turnedRound(upTo(1000)), 999},
	} {
		if got := impl.SpreadOf(c.list); got != c.want {
			t.Errorf("SpreadOf(%v) = %d, want %d", c.list, got, c.want)
		}
	}
}

func TestMiddlesOfPlainLists(t *testing.T) {
	for _, list := range plainLists() {
		checkMiddleAll(t, list)
		checkMiddleAll(t, turnedRound(list))
		checkMiddleAll(t, sortedByCounting(list))
	}
}

func TestMiddlesOfNoTimes(t *testing.T) {
	for _, list := range listsOfNoTimes() {
		checkMiddleAll(t, list)
	}
}

func TestMiddlesOfPairsAtEdges(t *testing.T) {
	for _, a := range edgeNumbers() {
		for _, b := range edgeNumbers() {
			checkMiddleAll(t, []int64{a, b})
			checkMiddleAll(t, []int64{a, 0, b, 1})
		}
	}
}

// With every length there are lists that are refused for one number alone, and such as are answered.
func TestMiddlesOfAllSizes(t *testing.T) {
	for _, list := range listsOfAllSizes(11, 3000) {
		checkMiddleAll(t, list)
		halves := slices.Clone(list)
		for i := range halves {
			halves[i] /= 4
		}
		checkMiddleAll(t, halves)
	}
}

// spanOfOthers leaves out those whose bits are set in wrong.
func spanOfOthers(list []int64, wrong int) impl.Span {
	others := span(math.MaxInt64, math.MinInt64)
	for i, n := range list {
		if wrong>>i&1 == 0 {
			others = span(min(others.Lo, n), max(others.Hi, n))
		}
	}
	return others
}

func bitsIn(set int) int64 {
	count := int64(0)
	for ; set != 0; set &= set - 1 {
		count++
	}
	return count
}

// checkNoLiarHeard is P3, in its own words, whichever of them are wrong, so long as they are at most f.
func checkNoLiarHeard(t *testing.T, list []int64) {
	t.Helper()
	for f := int64(0); 2*f < int64(len(list)); f++ {
		left, is := impl.Trimmed(list, f)
		middle, middleIs := impl.MiddleOf(list, f)
		if !is || !middleIs || len(left) == 0 {
			t.Fatalf("Trimmed(%v, %d) = %v, %v; MiddleOf: %v", list, f, left, is, middleIs)
		}
		for wrong := range 1 << len(list) {
			if bitsIn(wrong) > f {
				continue
			}
			others := spanOfOthers(list, wrong)
			if !isIn(others, left[0]) || !isIn(others, left[len(left)-1]) || !isIn(others, middle) {
				t.Fatalf("Trimmed(%v, %d) = %v, middle %d, past %v where %b are wrong", list, f, left, middle, others, wrong)
			}
		}
	}
}

// All lists of up to 6 numbers out of 4, and so every way in which they can be alike or turned round.
func TestNoLiarHeardInSmallLists(t *testing.T) {
	numbers := []int64{-maxNs, -1, 2, maxNs}
	for count, all := 1, 4; count <= 6; count, all = count+1, all*4 {
		for which := range all {
			list := make([]int64, count)
			for i, rest := 0, which; i < count; i, rest = i+1, rest/4 {
				list[i] = numbers[rest%4]
			}
			checkNoLiarHeard(t, list)
		}
	}
}

func TestNoLiarHeardInGreatLists(t *testing.T) {
	numbers := numbersFrom(12, 400)
	for i := range numbers {
		numbers[i] /= 4
	}
	for from := 0; from+11 <= len(numbers); from += 11 {
		checkNoLiarHeard(t, numbers[from:][:7+from%5])
	}
	checkNoLiarHeard(t, turnedRound(upTo(16)))
	checkNoLiarHeard(t, numbers[:16])
}

// middleCalls are all the chapter's functions; those that answer no list answer nil.
func middleCalls() []func(list []int64) []int64 {
	return []func([]int64) []int64{
		impl.Sorted,
		func(list []int64) []int64 { left, _ := impl.Trimmed(list, 0); return left },
		func(list []int64) []int64 { left, _ := impl.Trimmed(list, 1); return left },
		func(list []int64) []int64 { impl.MiddleOf(list, 0); return nil },
		func(list []int64) []int64 { impl.MiddleOf(list, 1); return nil },
		func(list []int64) []int64 { impl.SpreadOf(list); return nil },
	}
}

// P19: neither the list nor the room ahead of it and behind it is written into,
// not even when the answer is written into, up to the end of its own room.
func TestMiddlesLeaveTheList(t *testing.T) {
	lists := append(plainLists(), listsOfNoTimes()...)
	lists = append(lists, []int64{}, upTo(17), turnedRound(upTo(40)))
	for _, list := range lists {
		for which, call := range middleCalls() {
			room := slices.Concat([]int64{31}, list, []int64{-99, 99, 50})
			before := slices.Clone(room)
			answer := call(room[1 : 1+len(list)])
			if !slices.Equal(room, before) {
				t.Fatalf("call %d: %v became %v", which, before, room)
			}
			answer = answer[:cap(answer)]
			for i := range answer {
				answer[i] = 12345
			}
			if !slices.Equal(room, before) {
				t.Fatalf("call %d: the answer shares memory: %v became %v", which, before, room)
			}
		}
	}
}

// Two calls with one list answer alike, and what is done to the first answer is not seen in the second.
func TestMiddlesAnswerNewMemory(t *testing.T) {
	list := []int64{9, -4, 7, 100, 2}
	for which, call := range middleCalls() {
		first := call(list)
		want := slices.Clone(first)
		second := call(list)
		clear(first)
		if !slices.Equal(second, want) || !slices.Equal(call(list), want) {
			t.Errorf("call %d: %v, want %v", which, second, want)
		}
	}
}
