package tests

import (
	"math"
	"math/big"
	"testing"

	"loop.example/g00708/impl"
)

const maxNs = 4000000000000000000

// edgeNumbers are those at which an answer of chapter 1 may turn, of both signs.
func edgeNumbers() []int64 {
	list := []int64{0, math.MinInt64}
	for _, n := range []int64{
		1, 2, 3, 7, 10, 86400, 1000000007,
		1<<31 - 1, 1 << 31, 1<<32 - 1, 1 << 32, 1<<32 + 1,
		maxNs/2 - 1, maxNs / 2, maxNs/2 + 1,
		maxNs - 1, maxNs, maxNs + 1,
		1 << 62, math.MaxInt64 - 1, math.MaxInt64,
	} {
		list = append(list, n, -n)
	}
	return list
}

// numbersFrom gives count numbers of all sizes, always the same ones for one seed.
func numbersFrom(seed uint64, count int) []int64 {
	list := make([]int64, count)
	for i := range list {
		seed = seed*6364136223846793005 + 1442695040888963407
		list[i] = int64(seed) >> (seed >> 32 % 63)
	}
	return list
}

func isTime(n *big.Int) bool {
	return n.CmpAbs(big.NewInt(maxNs)) <= 0
}

func timesAll(list ...int64) bool {
	for _, n := range list {
		if !isTime(big.NewInt(n)) {
			return false
		}
	}
	return true
}

// floorBig divides rounding down; b is more than 0.
func floorBig(a *big.Int, b *big.Int) *big.Int {
	// Div rounds down just where the divisor is more than 0.
	return new(big.Int).Div(a, b)
}

// checkAnswer holds an answer against want, of which nil stands for 0 and false.
func checkAnswer(t *testing.T, name string, args []int64, got int64, is bool, want *big.Int) {
	t.Helper()
	if want == nil || !isTime(want) {
		if got != 0 || is {
			t.Errorf("%s%v = %d, %v, want 0, false", name, args, got, is)
		}
		return
	}
	if !is || got != want.Int64() {
		t.Errorf("%s%v = %d, %v, want %v, true", name, args, got, is, want)
	}
}

func checkPair(t *testing.T, a int64, b int64) {
	t.Helper()
	x, y := big.NewInt(a), big.NewInt(b)
	var sum, difference, quotient *big.Int
	if timesAll(a, b) {
		sum = new(big.Int).Add(x, y)
		difference = new(big.Int).Sub(x, y)
	}
	if timesAll(a) && b >= 1 {
		quotient = floorBig(x, y)
	}
	got, is := impl.AddNs(a, b)
	checkAnswer(t, "AddNs", []int64{a, b}, got, is, sum)
	got, is = impl.SubNs(a, b)
	checkAnswer(t, "SubNs", []int64{a, b}, got, is, difference)
	got, is = impl.FloorDiv(a, b)
	checkAnswer(t, "FloorDiv", []int64{a, b}, got, is, quotient)
}

func checkMulDiv(t *testing.T, a int64, b int64, c int64) {
	t.Helper()
	var want *big.Int
	if timesAll(a, b, c) && c >= 1 {
		product := new(big.Int).Mul(big.NewInt(a), big.NewInt(b))
		want = floorBig(product, big.NewInt(c))
	}
	got, is := impl.MulDiv(a, b, c)
	checkAnswer(t, "MulDiv", []int64{a, b, c}, got, is, want)
}

func TestMaxNs(t *testing.T) {
	if impl.MaxNs != maxNs {
		t.Errorf("MaxNs = %d", int64(impl.MaxNs))
	}
}

func TestNsOk(t *testing.T) {
	for _, n := range []int64{0, 1, -1, maxNs - 1, maxNs, -maxNs + 1, -maxNs} {
		if !impl.NsOk(n) {
			t.Errorf("NsOk(%d) = false", n)
		}
	}
	for _, n := range []int64{maxNs + 1, -maxNs - 1, math.MaxInt64, math.MinInt64, math.MinInt64 + 1} {
		if impl.NsOk(n) {
			t.Errorf("NsOk(%d) = true", n)
		}
	}
}

type pairCase struct {
	a, b, want int64
	is         bool
}

func checkPairCases(t *testing.T, name string, call func(int64, int64) (int64, bool), cases []pairCase) {
	t.Helper()
	for _, c := range cases {
		if got, is := call(c.a, c.b); got != c.want || is != c.is {
			t.Errorf("%s(%d, %d) = %d, %v, want %d, %v", name, c.a, c.b, got, is, c.want, c.is)
		}
	}
}

func TestAddNs(t *testing.T) {
	checkPairCases(t, "AddNs", impl.AddNs, []pairCase{
		{2, 3, 5, true},
		{-2, -3, -5, true},
		{maxNs, 0, maxNs, true},
		{maxNs, -maxNs, 0, true},
		{maxNs - 1, 1, maxNs, true},
		{maxNs, 1, 0, false},
		{-maxNs + 1, -1, -maxNs, true},
		{-maxNs, -1, 0, false},
		{maxNs, maxNs, 0, false},
		{-maxNs, -maxNs, 0, false},
		{maxNs + 1, -1, 0, false},
		{-1, maxNs + 1, 0, false},
		{-maxNs - 1, 1, 0, false},
		{math.MaxInt64, math.MinInt64, 0, false},
		{math.MinInt64, math.MinInt64, 0, false},
		{math.MaxInt64, math.MaxInt64, 0, false},
		{math.MaxInt64, 2, 0, false},
	})
}

func TestSubNs(t *testing.T) {
	checkPairCases(t, "SubNs", impl.SubNs, []pairCase{
		{2, 3, -1, true},
		{3, -2, 5, true},
		{0, maxNs, -maxNs, true},
		{0, -maxNs, maxNs, true},
		{maxNs, maxNs, 0, true},
		{maxNs - 1, -1, maxNs, true},
		{maxNs, -1, 0, false},
		{-maxNs + 1, 1, -maxNs, true},
		{-maxNs, 1, 0, false},
		{maxNs, -maxNs, 0, false},
		{maxNs + 1, 1, 0, false},
		{1, maxNs + 1, 0, false},
		{-1, -maxNs - 1, 0, false},
		{0, math.MinInt64, 0, false},
		{math.MinInt64, math.MinInt64, 0, false},
		{math.MaxInt64, math.MaxInt64, 0, false},
	})
}

func TestFloorDiv(t *testing.T) {
	checkPairCases(t, "FloorDiv", impl.FloorDiv, []pairCase{
		{7, 2, 3, true},
		{-7, 2, -4, true},
		{-8, 2, -4, true},
		{-1, maxNs, -1, true},
		{-1, math.MaxInt64, -1, true},
		{1, math.MaxInt64, 0, true},
		{0, 1, 0, true},
		{maxNs, 1, maxNs, true},
		{-maxNs, 1, -maxNs, true},
		{-maxNs, 3, -1333333333333333334, true},
		{maxNs, 3, 1333333333333333333, true},
		{1, 0, 0, false},
		{1, -1, 0, false},
		{-8, -2, 0, false},
		{1, math.MinInt64, 0, false},
		{maxNs + 1, 1, 0, false},
		{-maxNs - 1, 1, 0, false},
		{math.MinInt64, -1, 0, false},
		{math.MinInt64, 2, 0, false},
		{math.MaxInt64, math.MaxInt64, 0, false},
	})
}

func TestPairsAtEdges(t *testing.T) {
	for _, a := range edgeNumbers() {
		for _, b := range edgeNumbers() {
			checkPair(t, a, b)
		}
	}
}

func TestPairsOfAllSizes(t *testing.T) {
	list := numbersFrom(1, 40001)
	for i := range list[1:] {
		checkPair(t, list[i], list[i+1])
	}
}

func TestMulDiv(t *testing.T) {
	for _, c := range []struct {
		a, b, c, want int64
		is            bool
	}{
		{7, 3, 2, 10, true},
		{-7, 3, 2, -11, true},
		{7, -3, 2, -11, true},
		{-7, -3, 2, 10, true},
		{-8, 3, 2, -12, true},
		{0, -5, 3, 0, true},
		{-1, 1, maxNs, -1, true},
		{1, 1, maxNs, 0, true},
		{1, 1, maxNs + 1, 0, false},
		{1, 1, 1, 1, true},
		{1, 1, 0, 0, false},
		{1, 1, -1, 0, false},
		{-maxNs, 1, 1, -maxNs, true},
		{maxNs, maxNs, maxNs, maxNs, true},
		{maxNs, -maxNs, maxNs, -maxNs, true},
		{-maxNs, -maxNs, maxNs, maxNs, true},
		{maxNs, maxNs, maxNs - 1, 0, false},
		{-maxNs, maxNs, maxNs - 1, 0, false},
		{maxNs, maxNs - 1, maxNs, maxNs - 1, true},
		{maxNs, 2, 1, 0, false},
		{maxNs, maxNs, 1, 0, false},
		{maxNs, -maxNs, 1, 0, false},
		{2000000000000000001, 2, 1, 0, false},
		{2000000000000000000, 2, 1, maxNs, true},
		{-2000000000000000000, 2, 1, -maxNs, true},
		{2000000000000000001, 4000000000, 3000000000, 2666666666666666668, true},
		{maxNs + 1, 0, 1, 0, false},
		{0, maxNs + 1, 1, 0, false},
		{0, -maxNs - 1, 1, 0, false},
		{math.MinInt64, 1, 4, 0, false},
		{1, math.MinInt64, 4, 0, false},
		{1, 1, math.MinInt64, 0, false},
		{1, 1, math.MaxInt64, 0, false},
		{math.MaxInt64, math.MaxInt64, math.MaxInt64, 0, false},
		{math.MinInt64, math.MinInt64, math.MinInt64, 0, false},
	} {
		if got, is := impl.MulDiv(c.a, c.b, c.c); got != c.want || is != c.is {
			t.Errorf("MulDiv(%d, %d, %d) = %d, %v, want %d, %v", c.a, c.b, c.c, got, is, c.want, c.is)
		}
	}
}

// The product by 3 is MaxNs and a rest: rounded down it is still a time above 0, and none below 0.
func TestMulDivRoundsPastTheTimes(t *testing.T) {
	const a = 1714285714285714286
	if got, is := impl.MulDiv(a, 7, 3); !is || got != maxNs {
		t.Errorf("MaxNs and a rest: %d, %v", got, is)
	}
	if got, is := impl.MulDiv(a, -7, 3); got != 0 || is {
		t.Errorf("-MaxNs less a rest: %d, %v", got, is)
	}
	const b = a - 1
	if got, is := impl.MulDiv(-b, 7, 3); !is || got != -3999999999999999999 {
		t.Errorf("just within the times: %d, %v", got, is)
	}
}

// Quotients at the edges of a word, with and without a sign, must not wrap round to small ones.
func TestMulDivNearOneWord(t *testing.T) {
	for _, c := range []int64{1, 2, 3, 5, 1 << 20, maxNs / 8, maxNs / 5, maxNs / 4, maxNs - 1, maxNs} {
		for _, top := range []int64{1 << 61, 1<<32 - 1, 1 << 32, 1<<32 + 1} {
			for step := int64(-2); step <= 2; step++ {
				checkMulDiv(t, top+step, 1<<32, c)
				checkMulDiv(t, -top+step, 1<<32+1, c)
				checkMulDiv(t, top+step, -maxNs, c)
			}
		}
	}
	// Each is 18446744073709551615 and a rest: one more would be 0 in a word.
	for _, c := range [][3]int64{
		{36, 3586866903221301703, 7},
		{521, 389470604243387846, 11},
		{76, 3155364117871370671, 13},
	} {
		for _, sign := range []int64{1, -1} {
			if got, is := impl.MulDiv(sign*c[0], c[1], c[2]); got != 0 || is {
				t.Errorf("MulDiv(%d, %d, %d) = %d, %v", sign*c[0], c[1], c[2], got, is)
			}
		}
	}
}

func TestMulDivAtEdges(t *testing.T) {
	for _, a := range edgeNumbers() {
		for _, b := range edgeNumbers() {
			for _, c := range edgeNumbers() {
				checkMulDiv(t, a, b, c)
			}
		}
	}
}

func TestMulDivOfAllSizes(t *testing.T) {
	list := numbersFrom(2, 100002)
	for i := range list[2:] {
		checkMulDiv(t, list[i], list[i+1], list[i+2])
		checkMulDiv(t, list[i], list[i+1], list[i+2]&math.MaxInt64)
	}
}

// P1, in its own words: times c it is at most a times b, and one more would be past it.
func TestMulDivIsTheGreatest(t *testing.T) {
	list := numbersFrom(3, 60000)
	answered := 0
	for i := 0; i+2 < len(list); i += 3 {
		a, b, c := list[i], list[i+1], list[i+2]&math.MaxInt64
		q, is := impl.MulDiv(a, b, c)
		if !is {
			continue
		}
		answered++
		product := new(big.Int).Mul(big.NewInt(a), big.NewInt(b))
		below := new(big.Int).Mul(big.NewInt(q), big.NewInt(c))
		above := new(big.Int).Add(below, big.NewInt(c))
		if below.Cmp(product) > 0 || above.Cmp(product) <= 0 {
			t.Fatalf("MulDiv(%d, %d, %d) = %d", a, b, c, q)
		}
	}
	if answered < 1000 {
		t.Errorf("only %d answers were looked at", answered)
	}
}
