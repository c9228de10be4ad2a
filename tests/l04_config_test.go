package tests

import (
	"math"
	"testing"

	"loop.example/g00708/impl"
)

const (
	maxDrift  = 1000000
	maxSlew   = 100000
	maxPeriod = 1000000000000000
)

// config takes the fields in the order in which the document names them.
func config(nodes int64, liars int64, drift int64, err int64, period int64, slew int64) impl.Config {
	return impl.Config{Nodes: nodes, Liars: liars, Drift: drift, Err: err, Period: period, Slew: slew}
}

// plainConfig is right, and far from every edge.
func plainConfig() impl.Config { return config(7, 1, 5, 3, 1000, 10) }

// configAnswers are all that the chapter tells of one config.
type configAnswers struct {
	code, gap, skew, adjust, quorum int64
	ok                              bool
}

func askConfig(c impl.Config) configAnswers {
	return configAnswers{
		code:   impl.CodeOf(c),
		gap:    impl.GapMost(c),
		skew:   impl.SkewMost(c),
		adjust: impl.AdjustMost(c),
		quorum: impl.QuorumOf(c),
		ok:     impl.ConfigOk(c),
	}
}

// adjustWant is of a config whose Drift and Err are in range.
func adjustWant(c impl.Config) int64 { return 4*c.Drift + 5*c.Err + 2 }

// codeWant asks in the order of the codes, so that no number is reckoned with
// ahead of being known to be small.
func codeWant(c impl.Config) int64 {
	if c.Nodes <= 0 || c.Nodes >= 17 {
		return 1
	}
	if c.Liars <= -1 || c.Liars >= 17 || c.Nodes <= 3*c.Liars {
		return 2
	}
	if c.Drift <= -1 || c.Drift >= 1000001 || c.Err <= -1 || c.Err >= 1000001 || c.Slew <= 1 || c.Slew >= 100001 {
		return 3
	}
	if c.Period <= 0 || c.Period >= 1000000000000001 || c.Period < adjustWant(c)*c.Slew {
		return 4
	}
	return 0
}

// quorumWant is found by trying: the least count of which twice is more than Nodes and Liars together.
func quorumWant(c impl.Config) int64 {
	quorum := int64(0)
	for 2*quorum <= c.Nodes+c.Liars {
		quorum++
	}
	return quorum
}

func configWant(c impl.Config) configAnswers {
	code := codeWant(c)
	if code != 0 && code != 4 {
		return configAnswers{code: code, gap: -1, skew: -1, adjust: -1, quorum: -1}
	}
	return configAnswers{
		code:   code,
		gap:    2*c.Drift + 4*c.Err + 2,
		skew:   4*c.Drift + 4*c.Err + 2,
		adjust: adjustWant(c),
		quorum: quorumWant(c),
		ok:     code == 0,
	}
}

// checkConfig holds every function of the chapter against a reckoning of the tests' own.
func checkConfig(t *testing.T, c impl.Config) {
	t.Helper()
	if got, want := askConfig(c), configWant(c); got != want {
		t.Fatalf("%+v: %+v, want %+v", c, got, want)
	}
}

func checkCode(t *testing.T, c impl.Config, want int64) {
	t.Helper()
	if got := impl.CodeOf(c); got != want {
		t.Errorf("CodeOf(%+v) = %d, want %d", c, got, want)
	}
	if got := impl.ConfigOk(c); got != (want == 0) {
		t.Errorf("ConfigOk(%+v) = %v, and its code is %d", c, got, want)
	}
	checkConfig(t, c)
}

func TestConfigLimits(t *testing.T) {
	if impl.MaxDrift != maxDrift || impl.MaxSlew != maxSlew || impl.MaxPeriod != maxPeriod {
		t.Error(impl.MaxDrift, impl.MaxSlew, impl.MaxPeriod)
	}
	codes := []int64{impl.CfOk, impl.CfNodes, impl.CfLiars, impl.CfRange, impl.CfPeriod}
	for want, code := range codes {
		if code != int64(want) {
			t.Errorf("the code %d is %d", want, code)
		}
	}
}

func TestOrdinaryConfigs(t *testing.T) {
	for _, c := range []struct {
		config impl.Config
		want   configAnswers
	}{
		{config(7, 2, 5, 3, 370, 10), configAnswers{0, 24, 34, 37, 5, true}},
		{config(7, 2, 5, 3, 369, 10), configAnswers{4, 24, 34, 37, 5, false}},
		{config(4, 1, 0, 0, 1000000, 2), configAnswers{0, 2, 2, 2, 3, true}},
		{config(1, 0, 0, 0, 4, 2), configAnswers{0, 2, 2, 2, 1, true}},
		{config(1, 0, 0, 0, 3, 2), configAnswers{4, 2, 2, 2, 1, false}},
		{config(16, 5, 1, 0, 1000, 7), configAnswers{0, 4, 6, 6, 11, true}},
		{config(16, 5, 0, 1, 1000, 7), configAnswers{0, 6, 6, 7, 11, true}},
		{config(10, 3, 100, 20, 600000, 1000), configAnswers{0, 282, 482, 502, 7, true}},
		{config(16, 5, maxDrift, maxDrift, maxPeriod, maxSlew), configAnswers{0, 6000002, 8000002, 9000002, 11, true}},
		{config(16, 5, maxDrift, maxDrift, 900000200000, maxSlew), configAnswers{0, 6000002, 8000002, 9000002, 11, true}},
		{config(16, 5, maxDrift, maxDrift, 900000199999, maxSlew), configAnswers{4, 6000002, 8000002, 9000002, 11, false}},
		{config(6, 2, 5, 3, 370, 10), configAnswers{2, -1, -1, -1, -1, false}},
		{config(17, 2, 5, 3, 370, 10), configAnswers{1, -1, -1, -1, -1, false}},
		{config(7, 2, 5, 3, 370, 1), configAnswers{3, -1, -1, -1, -1, false}},
		{impl.Config{}, configAnswers{1, -1, -1, -1, -1, false}},
	} {
		if got := askConfig(c.config); got != c.want {
			t.Errorf("%+v: %+v, want %+v", c.config, got, c.want)
		}
		checkConfig(t, c.config)
	}
}

// Of every number of nodes, the most that may lie, and how many are a quorum with each number of them.
func TestNodesAndLiars(t *testing.T) {
	quorums := [][]int64{
		1: {1}, 2: {2}, 3: {2},
		4: {3, 3}, 5: {3, 4}, 6: {4, 4},
		7: {4, 5, 5}, 8: {5, 5, 6}, 9: {5, 6, 6},
		10: {6, 6, 7, 7}, 11: {6, 7, 7, 8}, 12: {7, 7, 8, 8},
		13: {7, 8, 8, 9, 9}, 14: {8, 8, 9, 9, 10}, 15: {8, 9, 9, 10, 10},
		16: {9, 9, 10, 10, 11, 11},
	}
	for nodes := int64(1); nodes <= 16; nodes++ {
		most := int64(len(quorums[nodes]))
		for liars, want := range quorums[nodes] {
			c := config(nodes, int64(liars), 5, 3, 1000, 10)
			checkCode(t, c, 0)
			if got := impl.QuorumOf(c); got != want {
				t.Errorf("QuorumOf(%+v) = %d, want %d", c, got, want)
			}
		}
		for _, liars := range []int64{-2, -1, most, most + 1, nodes, 16, 17} {
			checkCode(t, config(nodes, liars, 5, 3, 1000, 10), 2)
		}
	}
	for _, nodes := range []int64{-16, -7, -1, 0, 17, 18, 100} {
		for liars := int64(-1); liars <= 40; liars++ {
			checkCode(t, config(nodes, liars, 5, 3, 1000, 10), 1)
		}
	}
}

// With just 3 times Liars and 1 it is right, with one node less it is not.
func TestLeastNodesForLiars(t *testing.T) {
	for liars := int64(0); liars <= 5; liars++ {
		checkCode(t, config(3*liars+1, liars, 5, 3, 1000, 10), 0)
		less := int64(2)
		if liars == 0 {
			less = 1
		}
		checkCode(t, config(3*liars, liars, 5, 3, 1000, 10), less)
	}
}

// Liars of which 3 times as many, and 1, is few once it wraps round.
func TestLiarsThatWrapRound(t *testing.T) {
	const third = math.MaxInt64 / 3
	for _, from := range []int64{third, 2 * third, -third, -2 * third, math.MaxInt64, math.MinInt64 + 9, 1 << 61, 1 << 62} {
		for step := int64(-9); step <= 0; step++ {
			for nodes := int64(1); nodes <= 16; nodes++ {
				checkCode(t, config(nodes, from+step, 5, 3, 1000, 10), 2)
			}
		}
	}
}

func TestRangesOfConfigs(t *testing.T) {
	for _, n := range []struct{ value, code int64 }{
		{0, 0}, {1, 0}, {maxDrift - 1, 0}, {maxDrift, 0},
		{-1, 3}, {-2, 3}, {-maxDrift, 3}, {maxDrift + 1, 3}, {maxDrift + 2, 3}, {maxPeriod, 3},
	} {
		checkCode(t, config(7, 2, n.value, 3, maxPeriod, 10), n.code)
		checkCode(t, config(7, 2, 5, n.value, maxPeriod, 10), n.code)
		checkCode(t, config(7, 2, n.value, n.value, maxPeriod, 10), n.code)
	}
	for _, n := range []struct{ value, code int64 }{
		{2, 0}, {3, 0}, {maxSlew - 1, 0}, {maxSlew, 0},
		{1, 3}, {0, 3}, {-1, 3}, {-2, 3}, {-maxSlew, 3}, {maxSlew + 1, 3}, {maxSlew + 2, 3}, {maxDrift, 3},
	} {
		checkCode(t, config(7, 2, 5, 3, maxPeriod, n.value), n.code)
	}
}

func TestPeriods(t *testing.T) {
	for _, n := range []struct{ value, code int64 }{
		{-1, 4}, {0, 4}, {1, 4}, {2, 4}, {37, 4}, {369, 4}, {370, 0}, {371, 0},
		{maxPeriod - 1, 0}, {maxPeriod, 0}, {maxPeriod + 1, 4}, {maxPeriod + 2, 4},
		{math.MinInt64, 4}, {math.MinInt64 + 1, 4}, {math.MaxInt64, 4},
	} {
		checkCode(t, config(7, 2, 5, 3, n.value, 10), n.code)
	}
	// The least one of all configs: AdjustMost is 2 and Slew 2, so a Period of 1 is never right.
	for _, n := range []struct{ value, code int64 }{{0, 4}, {1, 4}, {2, 4}, {3, 4}, {4, 0}, {5, 0}} {
		checkCode(t, config(1, 0, 0, 0, n.value, 2), n.code)
	}
}

// Where Err, 4 times, or Drift, 2 times, wraps round, or their product with Slew does, it is still CfRange.
func TestRangesThatWrapRound(t *testing.T) {
	for _, n := range []int64{1 << 60, 1 << 61, 1 << 62, 3 << 61, 1<<62 + 1, math.MaxInt64 / 4, math.MaxInt64 / 5, math.MaxInt64 / 2} {
		for _, value := range []int64{n, -n, n + 1, n - 1} {
			checkCode(t, config(7, 2, value, 3, 1000, 10), 3)
			checkCode(t, config(7, 2, 5, value, 1000, 10), 3)
			checkCode(t, config(7, 2, value, value, 1000, 10), 3)
			checkCode(t, config(7, 2, 5, 3, 1000, value), 3)
		}
	}
}

// configFaults are, of each code, ways to make a right config wrong by it.
func configFaults() map[int64][]func(*impl.Config) {
	return map[int64][]func(*impl.Config){
		1: {
			func(c *impl.Config) { c.Nodes = 0 },
			func(c *impl.Config) { c.Nodes = 17 },
			func(c *impl.Config) { c.Nodes = math.MinInt64 },
			func(c *impl.Config) { c.Nodes = math.MaxInt64 },
		},
		2: {
			func(c *impl.Config) { c.Liars = -1 },
			func(c *impl.Config) { c.Liars = 3 },
			func(c *impl.Config) { c.Liars = math.MinInt64 },
			func(c *impl.Config) { c.Liars = math.MaxInt64 },
		},
		3: {
			func(c *impl.Config) { c.Drift = -1 },
			func(c *impl.Config) { c.Drift = maxDrift + 1 },
			func(c *impl.Config) { c.Err = -1 },
			func(c *impl.Config) { c.Err = maxDrift + 1 },
			func(c *impl.Config) { c.Slew = 1 },
			func(c *impl.Config) { c.Slew = maxSlew + 1 },
			func(c *impl.Config) { c.Drift, c.Err, c.Slew = math.MinInt64, math.MaxInt64, math.MinInt64 },
		},
		4: {
			func(c *impl.Config) { c.Period = 0 },
			func(c *impl.Config) { c.Period = 1 },
			func(c *impl.Config) { c.Period = 3 },
			func(c *impl.Config) { c.Period = maxPeriod + 1 },
			func(c *impl.Config) { c.Period = math.MinInt64 },
			func(c *impl.Config) { c.Period = math.MaxInt64 },
		},
	}
}

// withFaults takes a fault of each of these codes, in every way, and hands on each config that comes of it.
func withFaults(c impl.Config, codes []int64, each func(impl.Config)) {
	if len(codes) == 0 {
		each(c)
		return
	}
	for _, fault := range configFaults()[codes[0]] {
		wrong := c
		fault(&wrong)
		withFaults(wrong, codes[1:], each)
	}
}

// Every set of codes, so each one alone, each pair, and all of them at once: the first is the answer.
func TestFirstCodeIsTheAnswer(t *testing.T) {
	for set := range 16 {
		var codes []int64
		for code := int64(1); code <= 4; code++ {
			if set>>(code-1)&1 == 1 {
				codes = append(codes, code)
			}
		}
		want := int64(0)
		if len(codes) > 0 {
			want = codes[0]
		}
		withFaults(plainConfig(), codes, func(c impl.Config) { checkCode(t, c, want) })
	}
}

// The Mosts and QuorumOf are told where the Period alone is wrong, and are -1 with every other code.
func TestMostsByCode(t *testing.T) {
	right := configAnswers{code: 0, gap: 24, skew: 34, adjust: 37, quorum: 5, ok: true}
	for code := int64(1); code <= 4; code++ {
		want := configAnswers{code: code, gap: -1, skew: -1, adjust: -1, quorum: -1}
		if code == 4 {
			want = right
			want.code, want.ok = 4, false
		}
		withFaults(plainConfig(), []int64{code}, func(c impl.Config) {
			if got := askConfig(c); got != want {
				t.Errorf("%+v: %+v, want %+v", c, got, want)
			}
		})
	}
	if got := askConfig(plainConfig()); got != right {
		t.Errorf("%+v: %+v, want %+v", plainConfig(), got, right)
	}
}

// fieldsOf are for writing into one field after the other.
func fieldsOf(c *impl.Config) []*int64 {
	return []*int64{&c.Nodes, &c.Liars, &c.Drift, &c.Err, &c.Period, &c.Slew}
}

func TestConfigsOfFurthestNumbers(t *testing.T) {
	codes := []int64{1, 2, 3, 3, 4, 3}
	for _, n := range []int64{math.MinInt64, math.MinInt64 + 1, math.MaxInt64 - 1, math.MaxInt64} {
		for field, code := range codes {
			c := plainConfig()
			*fieldsOf(&c)[field] = n
			checkCode(t, c, code)
		}
		checkCode(t, config(n, n, n, n, n, n), 1)
	}
	// Each field is left right, or is the least or the greatest int64, in every way.
	for way := range 3 * 3 * 3 * 3 * 3 * 3 {
		c := plainConfig()
		for _, field := range fieldsOf(&c) {
			switch way % 3 {
			case 1:
				*field = math.MinInt64
			case 2:
				*field = math.MaxInt64
			}
			way /= 3
		}
		checkConfig(t, c)
	}
}

// All fields at their edges, in every way.
func TestConfigsAtEdges(t *testing.T) {
	rates := []int64{math.MinInt64, -1, 0, 1, maxDrift, maxDrift + 1, 1 << 62, math.MaxInt64}
	slews := []int64{math.MinInt64, 0, 1, 2, 3, maxSlew, maxSlew + 1, math.MaxInt64}
	periods := []int64{math.MinInt64, -1, 0, 1, 2, maxPeriod, maxPeriod + 1, math.MaxInt64}
	for _, nodes := range []int64{math.MinInt64, -1, 0, 1, 2, 3, 4, 15, 16, 17, math.MaxInt64} {
		for _, liars := range []int64{math.MinInt64, -1, 0, 1, 2, 5, 6, math.MaxInt64 / 3 * 2, math.MaxInt64} {
			for _, drift := range rates {
				for _, err := range rates {
					for _, slew := range slews {
						c := config(nodes, liars, drift, err, 0, slew)
						// With wild numbers this wraps round, which is some more to ask with.
						least := adjustWant(c) * slew
						for _, period := range append(periods[:len(periods):len(periods)], least-1, least, least+1) {
							c.Period = period
							checkConfig(t, c)
						}
					}
				}
			}
		}
	}
}

// configsInRange are of all sizes, right but for their Period, which is 0.
func configsInRange(seed uint64, count int) []impl.Config {
	numbers := numbersFrom(seed, 5*count)
	below := func(n int64, most int64) int64 { return (n & math.MaxInt64) % (most + 1) }
	list := make([]impl.Config, count)
	for i := range list {
		n := numbers[5*i:]
		nodes := 1 + below(n[0], 15)
		list[i] = config(nodes, below(n[1], (nodes-1)/3), below(n[2], maxDrift), below(n[3], maxDrift), 0, 2+below(n[4], maxSlew-2))
	}
	return list
}

// P4, in its own words: whatever is right leaves the time, and not one less is right.
func TestRightConfigLeavesTime(t *testing.T) {
	for _, c := range configsInRange(13, 20000) {
		adjust := impl.AdjustMost(c)
		// Both are small, as checkConfig tells, so the product can't wrap round.
		checkConfig(t, c)
		least := adjust * c.Slew
		for _, period := range []int64{1, least / 2, least - c.Slew, least - 1, least, least + 1, 2 * least, maxPeriod, maxPeriod + 1} {
			c.Period = period
			checkConfig(t, c)
			if impl.AdjustMost(c) != adjust {
				t.Fatalf("%+v: AdjustMost hangs on the Period", c)
			}
			leaves := adjust*c.Slew <= c.Period
			if ok := impl.ConfigOk(c); ok && !leaves || !ok && leaves && period <= maxPeriod {
				t.Fatalf("ConfigOk(%+v) = %v, AdjustMost is %d", c, ok, adjust)
			}
		}
	}
}

func TestConfigsOfAllSizes(t *testing.T) {
	numbers := numbersFrom(14, 60000)
	for i := 0; i+6 <= len(numbers); i += 6 {
		n := numbers[i:]
		checkConfig(t, config(n[0], n[1], n[2], n[3], n[4], n[5]))
		checkConfig(t, config(1+n[0]&15, n[1]&3, n[2], n[3], n[4], n[5]))
		checkConfig(t, config(1+n[0]&15, n[1]&3, n[2]&0xfffff, n[3]&0xfffff, n[4], n[5]&0x1ffff))
		checkConfig(t, config(1+n[0]&15, n[1]&3, n[2]&0xff, n[3]&0xff, n[4]&0xfffff, 2+n[5]&0xff))
	}
}

// P19: the argument stays, and a second call with it answers alike.
func TestConfigsStay(t *testing.T) {
	wrong := config(math.MaxInt64, math.MinInt64, -1, maxDrift+1, 0, 1)
	for _, c := range []impl.Config{plainConfig(), config(7, 2, 5, 3, 369, 10), {}, wrong} {
		before := c
		first := askConfig(c)
		if c != before {
			t.Errorf("%+v became %+v", before, c)
		}
		if second := askConfig(c); second != first {
			t.Errorf("%+v: %+v, then %+v", c, first, second)
		}
	}
}
