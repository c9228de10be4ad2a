package tests

import (
	"math"
	"math/big"
	"slices"
	"testing"

	"loop.example/g00708/impl"
)

func span(lo int64, hi int64) impl.Span { return impl.Span{Lo: lo, Hi: hi} }

// rightSpans and wrongSpans are what every function of the chapter is asked with.
func rightSpans() []impl.Span {
	return []impl.Span{
		span(0, 0), span(-3, 8), span(5, 20), span(9, 10), span(8, 8), span(8, 9), span(-4, -3),
		span(-maxNs, maxNs), span(-maxNs, -maxNs), span(maxNs, maxNs),
		span(-maxNs, 0), span(0, maxNs), span(maxNs-1, maxNs), span(-maxNs, -maxNs+1),
		span(-maxNs+1, maxNs-1), span(-1, 1), span(0, 1),
	}
}

func wrongSpans() []impl.Span {
	return []impl.Span{
		span(1, 0), span(8, 7), span(0, -1), span(20, -20), span(maxNs, maxNs-1), span(-maxNs+1, -maxNs), span(maxNs, -maxNs),
		span(0, maxNs+1), span(-maxNs-1, 0), span(-maxNs-1, maxNs), span(-maxNs, maxNs+1), span(-maxNs-1, maxNs+1),
		span(maxNs+1, maxNs+1), span(-maxNs-1, -maxNs-1), span(maxNs+1, 0), span(0, -maxNs-1),
		span(math.MinInt64, math.MaxInt64), span(math.MaxInt64, math.MinInt64),
		span(math.MinInt64, math.MinInt64), span(math.MaxInt64, math.MaxInt64),
		span(math.MinInt64, 0), span(0, math.MaxInt64), span(0, math.MinInt64), span(math.MaxInt64, 0),
	}
}

func allSpans() []impl.Span { return append(rightSpans(), wrongSpans()...) }

// spansOfAllSizes gives spans of which many are turned round or have an end that is no time.
func spansOfAllSizes(seed uint64, count int) []impl.Span {
	numbers := numbersFrom(seed, 2*count)
	list := make([]impl.Span, count)
	for i := range list {
		list[i] = span(numbers[2*i], numbers[2*i+1])
	}
	return list
}

func isSpan(s impl.Span) bool { return timesAll(s.Lo, s.Hi) && s.Lo <= s.Hi }

func isIn(s impl.Span, n int64) bool { return isSpan(s) && s.Lo <= n && n <= s.Hi }

// numbersAround are those at which an answer about these spans may turn.
func numbersAround(spans ...impl.Span) []int64 {
	list := []int64{0, 1, -1, maxNs, maxNs + 1, -maxNs, -maxNs - 1, math.MinInt64, math.MaxInt64}
	for _, s := range spans {
		// Past the greatest int64 these wrap round, which is one number more to ask with.
		list = append(list, s.Lo-1, s.Lo, s.Lo+1, s.Hi-1, s.Hi, s.Hi+1)
	}
	return list
}

func checkNoSpan(t *testing.T, got impl.Span, is bool, name string, args ...any) {
	t.Helper()
	if got != (impl.Span{}) || is {
		t.Errorf("%s%v = %v, %v, want the zero Span and false", name, args, got, is)
	}
}

func checkSpan(t *testing.T, got impl.Span, is bool, want impl.Span, name string, args ...any) {
	t.Helper()
	if got != want || !is {
		t.Errorf("%s%v = %v, %v, want %v, true", name, args, got, is, want)
	}
}

func TestSpanOk(t *testing.T) {
	for _, s := range rightSpans() {
		if !impl.SpanOk(s) {
			t.Errorf("SpanOk(%v) = false", s)
		}
	}
	for _, s := range wrongSpans() {
		if impl.SpanOk(s) {
			t.Errorf("SpanOk(%v) = true", s)
		}
	}
	for _, s := range spansOfAllSizes(4, 20000) {
		if impl.SpanOk(s) != isSpan(s) {
			t.Errorf("SpanOk(%v) = %v", s, impl.SpanOk(s))
		}
	}
}

func TestInSpan(t *testing.T) {
	for _, c := range []struct {
		s    impl.Span
		n    int64
		want bool
	}{
		{span(-3, 8), -3, true},
		{span(-3, 8), -4, false},
		{span(-3, 8), 0, true},
		{span(-3, 8), 8, true},
		{span(-3, 8), 9, false},
		{span(5, 5), 5, true},
		{span(5, 5), 4, false},
		{span(5, 5), 6, false},
		{span(-maxNs, maxNs), maxNs, true},
		{span(-maxNs, maxNs), -maxNs, true},
		{span(-maxNs, maxNs), maxNs + 1, false},
		{span(-maxNs, maxNs), -maxNs - 1, false},
		{span(-maxNs, maxNs), math.MaxInt64, false},
		{span(-maxNs, maxNs), math.MinInt64, false},
		{span(1, 0), 0, false},
		{span(1, 0), 1, false},
		{span(0, maxNs+1), 0, false},
		{span(0, maxNs+1), maxNs, false},
		{span(-maxNs-1, 0), 0, false},
		{span(math.MinInt64, math.MaxInt64), 0, false},
		{span(math.MaxInt64, math.MinInt64), 0, false},
		{span(math.MinInt64, math.MinInt64), math.MinInt64, false},
		{span(math.MaxInt64, math.MaxInt64), math.MaxInt64, false},
	} {
		if got := impl.InSpan(c.s, c.n); got != c.want {
			t.Errorf("InSpan(%v, %d) = %v", c.s, c.n, got)
		}
	}
}

func TestInSpanAroundTheEnds(t *testing.T) {
	for _, s := range append(allSpans(), spansOfAllSizes(5, 5000)...) {
		for _, n := range numbersAround(s) {
			if got := impl.InSpan(s, n); got != isIn(s, n) {
				t.Errorf("InSpan(%v, %d) = %v", s, n, got)
			}
		}
	}
}

func TestHull(t *testing.T) {
	for _, c := range []struct {
		list []int64
		want impl.Span
	}{
		{[]int64{4, -2, 9, 0}, span(-2, 9)},
		{[]int64{4}, span(4, 4)},
		{[]int64{0}, span(0, 0)},
		{[]int64{3, 3, 3}, span(3, 3)},
		{[]int64{5, 7}, span(5, 7)},
		{[]int64{7, 5}, span(5, 7)},
		{[]int64{-7, -5, -6}, span(-7, -5)},
		{[]int64{maxNs}, span(maxNs, maxNs)},
		{[]int64{-maxNs}, span(-maxNs, -maxNs)},
		{[]int64{maxNs, 0, -maxNs}, span(-maxNs, maxNs)},
		{make([]int64, 100), span(0, 0)},
	} {
		got, is := impl.Hull(c.list)
		checkSpan(t, got, is, c.want, "Hull", c.list)
	}
	for _, list := range [][]int64{nil, {}, make([]int64, 0, 4)} {
		got, is := impl.Hull(list)
		checkNoSpan(t, got, is, "Hull", list)
	}
}

// One that is no time is refused wherever it stands: least, greatest, first or last.
func TestHullOfNoTimes(t *testing.T) {
	for _, n := range []int64{maxNs + 1, -maxNs - 1, math.MaxInt64, math.MinInt64} {
		for _, others := range [][]int64{{}, {0}, {1, 2, 3, 4}, {maxNs, -maxNs}, {-5, -maxNs, 7}} {
			for at := range len(others) + 1 {
				list := slices.Insert(slices.Clone(others), at, n)
				got, is := impl.Hull(list)
				checkNoSpan(t, got, is, "Hull", list)
			}
		}
	}
}

func TestHullHoldsAllAndNoMore(t *testing.T) {
	numbers := numbersFrom(6, 30000)
	answered := 0
	for from := 0; from+17 < len(numbers); from += 7 {
		list := numbers[from : from+1+from%17]
		got, is := impl.Hull(list)
		if !timesAll(list...) {
			checkNoSpan(t, got, is, "Hull", list)
			continue
		}
		answered++
		if !is || !slices.Contains(list, got.Lo) || !slices.Contains(list, got.Hi) {
			t.Fatalf("Hull(%v) = %v, %v", list, got, is)
		}
		for _, n := range list {
			if !isIn(got, n) {
				t.Fatalf("Hull(%v) = %v lacks %d", list, got, n)
			}
		}
	}
	if answered < 1000 {
		t.Errorf("only %d answers were looked at", answered)
	}
}

// P19: neither the list nor the room behind it is written into.
func TestHullLeavesTheList(t *testing.T) {
	for _, room := range [][]int64{
		{9, -2, 4, 7, 5, -99, 99},
		{9, maxNs + 1, 4, 7, 5, -99, 99},
	} {
		before := slices.Clone(room)
		impl.Hull(room[1:5])
		if !slices.Equal(room, before) {
			t.Errorf("%v became %v", before, room)
		}
	}
}

func TestMeet(t *testing.T) {
	for _, c := range []struct{ a, b, want impl.Span }{
		{span(-3, 8), span(5, 20), span(5, 8)},
		{span(-3, 8), span(-3, 8), span(-3, 8)},
		{span(-3, 8), span(0, 1), span(0, 1)},
		{span(-3, 8), span(8, 10), span(8, 8)},
		{span(-3, 8), span(-9, -3), span(-3, -3)},
		{span(0, 0), span(0, 0), span(0, 0)},
		{span(0, 0), span(-1, 1), span(0, 0)},
		{span(-maxNs, 0), span(0, maxNs), span(0, 0)},
		{span(-maxNs, maxNs), span(-maxNs, maxNs), span(-maxNs, maxNs)},
		{span(-maxNs, maxNs), span(maxNs, maxNs), span(maxNs, maxNs)},
		{span(-maxNs, maxNs), span(-maxNs, -maxNs), span(-maxNs, -maxNs)},
	} {
		got, is := impl.Meet(c.a, c.b)
		checkSpan(t, got, is, c.want, "Meet", c.a, c.b)
		got, is = impl.Meet(c.b, c.a)
		checkSpan(t, got, is, c.want, "Meet", c.b, c.a)
	}
}

func TestMeetOfNothing(t *testing.T) {
	for _, c := range [][2]impl.Span{
		{span(-3, 8), span(9, 10)},
		{span(-3, 8), span(-9, -4)},
		{span(0, 0), span(1, 1)},
		{span(-maxNs, -1), span(0, maxNs)},
		{span(-maxNs, -maxNs), span(maxNs, maxNs)},
		{span(maxNs, maxNs), span(maxNs-1, maxNs-1)},
	} {
		got, is := impl.Meet(c[0], c[1])
		checkNoSpan(t, got, is, "Meet", c[0], c[1])
		got, is = impl.Meet(c[1], c[0])
		checkNoSpan(t, got, is, "Meet", c[1], c[0])
	}
}

func TestMeetOfNoSpans(t *testing.T) {
	for _, wrong := range wrongSpans() {
		for _, other := range allSpans() {
			got, is := impl.Meet(wrong, other)
			checkNoSpan(t, got, is, "Meet", wrong, other)
			got, is = impl.Meet(other, wrong)
			checkNoSpan(t, got, is, "Meet", other, wrong)
		}
	}
}

// checkMeetInBoth is P2, in its own words: a number is in what they have in common just when it is in both.
func checkMeetInBoth(t *testing.T, a impl.Span, b impl.Span) {
	t.Helper()
	got, is := impl.Meet(a, b)
	if is && !isSpan(got) || !is && got != (impl.Span{}) {
		t.Errorf("Meet(%v, %v) = %v, %v", a, b, got, is)
	}
	for _, n := range numbersAround(a, b) {
		if (is && isIn(got, n)) != (isIn(a, n) && isIn(b, n)) {
			t.Errorf("Meet(%v, %v) = %v, %v: of %d", a, b, got, is, n)
		}
	}
}

func TestMeetIsInBoth(t *testing.T) {
	for _, a := range allSpans() {
		for _, b := range allSpans() {
			checkMeetInBoth(t, a, b)
		}
	}
	list := spansOfAllSizes(7, 20000)
	for i := range list[1:] {
		checkMeetInBoth(t, list[i], list[i+1])
	}
}

func TestWidened(t *testing.T) {
	for _, c := range []struct {
		s    impl.Span
		by   int64
		want impl.Span
	}{
		{span(-3, 8), 2, span(-5, 10)},
		{span(-3, 8), 0, span(-3, 8)},
		{span(-3, 8), -5, span(2, 3)},
		{span(-4, 8), -6, span(2, 2)},
		{span(5, 5), 0, span(5, 5)},
		{span(5, 5), 1, span(4, 6)},
		{span(0, 0), maxNs, span(-maxNs, maxNs)},
		{span(-maxNs, maxNs), 0, span(-maxNs, maxNs)},
		{span(-maxNs, maxNs), -maxNs, span(0, 0)},
		{span(-maxNs, maxNs), -maxNs + 1, span(-1, 1)},
		{span(0, maxNs-1), 1, span(-1, maxNs)},
		{span(-maxNs+1, 0), 1, span(-maxNs, 1)},
		{span(-maxNs+2, maxNs-2), 2, span(-maxNs, maxNs)},
		{span(maxNs, maxNs), 0, span(maxNs, maxNs)},
	} {
		got, is := impl.Widened(c.s, c.by)
		checkSpan(t, got, is, c.want, "Widened", c.s, c.by)
	}
}

func TestWidenedToNoSpan(t *testing.T) {
	for _, c := range []struct {
		s  impl.Span
		by int64
	}{
		{span(-3, 8), -6},
		{span(-4, 8), -7},
		{span(5, 5), -1},
		{span(0, maxNs), 1},
		{span(-maxNs, 0), 1},
		{span(0, maxNs-1), 2},
		{span(-maxNs+1, 0), 2},
		{span(0, 0), maxNs + 1},
		{span(maxNs, maxNs), maxNs},
		{span(-maxNs, maxNs), -maxNs - 1},
		{span(-maxNs, maxNs), 1},
		{span(-maxNs, maxNs), math.MinInt64},
		{span(-maxNs, maxNs), math.MaxInt64},
		{span(0, 0), math.MinInt64},
		{span(0, 0), math.MaxInt64},
		{span(-maxNs, -maxNs), math.MaxInt64},
		{span(maxNs, maxNs), math.MinInt64},
	} {
		got, is := impl.Widened(c.s, c.by)
		checkNoSpan(t, got, is, "Widened", c.s, c.by)
	}
}

// One that is turned round stays wrong, even where it would be a span once it is widened.
func TestWidenedOfNoSpans(t *testing.T) {
	for _, wrong := range wrongSpans() {
		for _, by := range append(numbersAround(wrong), -2, 2, 10, 40, -40, maxNs/2, -maxNs/2) {
			got, is := impl.Widened(wrong, by)
			checkNoSpan(t, got, is, "Widened", wrong, by)
		}
	}
}

// checkWidened holds an answer against ends that can't wrap round.
func checkWidened(t *testing.T, s impl.Span, by int64) {
	t.Helper()
	lo := new(big.Int).Sub(big.NewInt(s.Lo), big.NewInt(by))
	hi := new(big.Int).Add(big.NewInt(s.Hi), big.NewInt(by))
	got, is := impl.Widened(s, by)
	if !isSpan(s) || !isTime(lo) || !isTime(hi) || lo.Cmp(hi) > 0 {
		checkNoSpan(t, got, is, "Widened", s, by)
		return
	}
	checkSpan(t, got, is, span(lo.Int64(), hi.Int64()), "Widened", s, by)
}

func TestWidenedAtEdges(t *testing.T) {
	for _, s := range allSpans() {
		for _, by := range append(edgeNumbers(), numbersAround(s)...) {
			checkWidened(t, s, by)
		}
		// What takes an end to the edge of the times, or the span to one time, and one further.
		for step := int64(-1); step <= 1; step++ {
			checkWidened(t, s, s.Lo+maxNs+step)
			checkWidened(t, s, maxNs-s.Hi+step)
			checkWidened(t, s, s.Lo/2-s.Hi/2+step)
		}
	}
}

func TestWidenedOfAllSizes(t *testing.T) {
	numbers := numbersFrom(8, 40000)
	for i, s := range spansOfAllSizes(9, 40000) {
		checkWidened(t, s, numbers[i])
		checkWidened(t, span(min(s.Lo, s.Hi), max(s.Lo, s.Hi)), numbers[i])
	}
}
