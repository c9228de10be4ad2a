package tests

import (
	"math"
	"math/big"
	"slices"
	"testing"

	"loop.example/g00708/impl"
)

const (
	maxParcels    = 3000
	maxNow        = 100000
	maxFacts      = 3000
	maxDelay      = 1000
	maxRulePeriod = 100000
)

// rule takes the fields in the order in which the document names them, as do those of the parts of a court.
func rule(nodes int64, liars int64, period int64, alpha int64, least int64, most int64) impl.Rule {
	return impl.Rule{Nodes: nodes, Liars: liars, Period: period, Alpha: alpha, Least: least, Most: most}
}

func peer(off int64, next int64, hasSigned bool, seals ...impl.Seal) impl.Peer {
	return impl.Peer{Off: off, Next: next, Signed: hasSigned, Seals: seals}
}

func parcel(due int64, to int64, seals ...impl.Seal) impl.Parcel {
	return impl.Parcel{Due: due, To: to, Seals: seals}
}

func fact(node int64, round int64, at int64) impl.Fact {
	return impl.Fact{Node: node, Round: round, At: at}
}

// plainRule is right, and far from every edge but for its Liars.
func plainRule() impl.Rule { return rule(5, 2, 100, 7, 3, 20) }

func fiveKeys() []int64 { return []int64{11, 22, 33, 44, 55} }

// plainCourt is right and new memory at every call: of its 5 nodes the second and the last one lie, and there is something of everything.
func plainCourt() impl.Court {
	keys := fiveKeys()
	return impl.Court{
		Rule: plainRule(),
		Keys: keys,
		Lies: []bool{false, true, false, false, true},
		Peers: []impl.Peer{
			peer(5, 3, true, signed(keys, 3, 0), signed(keys, 3, 2), signed(keys, 4, 1)),
			peer(-7, 9, false, signed(keys, 9, 4)),
			peer(60, 4, true, signed(keys, 4, 2), signed(keys, 5, 1), signed(keys, 6, 1)),
			peer(0, 3, false),
			peer(-1000, 1, true, signedByAll(keys, 1)...),
		},
		Parcels: []impl.Parcel{
			parcel(60, 2, signed(keys, 3, 0)),
			parcel(55, 0, signed(keys, 7, 1), signed(keys, 2, 4), signed(keys, 7, 1)),
			parcel(55, 3),
		},
		Now:   50,
		Made:  []impl.Seal{signed(keys, 1, 0), signed(keys, 1, 2), signed(keys, 2, 0), signed(keys, 2, 2), signed(keys, 2, 3), signed(keys, 3, 0), signed(keys, 4, 2)},
		Facts: []impl.Fact{fact(2, 3, 33), fact(0, 2, 21), fact(3, 2, 40), fact(0, 2, 21)},
	}
}

// bareCourt has as many nodes as its rule wants, up to some too many, and nothing else.
func bareCourt(r impl.Rule) impl.Court {
	nodes := int(min(max(r.Nodes, 0), 20))
	return impl.Court{Rule: r, Keys: keysAll(nodes, 7), Lies: make([]bool, nodes), Peers: slices.Repeat([]impl.Peer{peer(0, 1, false)}, nodes)}
}

func cloneCourt(c impl.Court) impl.Court {
	c.Keys, c.Lies, c.Peers, c.Parcels = slices.Clone(c.Keys), slices.Clone(c.Lies), slices.Clone(c.Peers), slices.Clone(c.Parcels)
	for i := range c.Peers {
		c.Peers[i].Seals = slices.Clone(c.Peers[i].Seals)
	}
	for i := range c.Parcels {
		c.Parcels[i].Seals = slices.Clone(c.Parcels[i].Seals)
	}
	c.Made, c.Facts = slices.Clone(c.Made), slices.Clone(c.Facts)
	return c
}

// changed is plainCourt with one change.
func changed(change func(*impl.Court)) impl.Court {
	c := plainCourt()
	change(&c)
	return c
}

func samePeer(a impl.Peer, b impl.Peer) bool {
	return a.Off == b.Off && a.Next == b.Next && a.Signed == b.Signed && slices.Equal(a.Seals, b.Seals)
}

func sameParcel(a impl.Parcel, b impl.Parcel) bool {
	return a.Due == b.Due && a.To == b.To && slices.Equal(a.Seals, b.Seals)
}

// sameCourt takes nil and an empty list as one value.
func sameCourt(a impl.Court, b impl.Court) bool {
	return a.Rule == b.Rule && slices.Equal(a.Keys, b.Keys) && slices.Equal(a.Lies, b.Lies) &&
		slices.EqualFunc(a.Peers, b.Peers, samePeer) && slices.EqualFunc(a.Parcels, b.Parcels, sameParcel) &&
		a.Now == b.Now && slices.Equal(a.Made, b.Made) && slices.Equal(a.Facts, b.Facts)
}

// sumBig is a sum that no number is too great for.
func sumBig(list ...int64) *big.Int {
	sum := new(big.Int)
	for _, n := range list {
		sum.Add(sum, big.NewInt(n))
	}
	return sum
}

func ruleWant(r impl.Rule) bool {
	if r.Nodes <= 0 || r.Nodes >= 17 || r.Liars <= -1 || sumBig(r.Liars, r.Liars, 1).Cmp(sumBig(r.Nodes)) > 0 {
		return false
	}
	if r.Least <= 0 || r.Most < r.Least || r.Most >= maxDelay+1 || r.Alpha <= -1 {
		return false
	}
	return r.Period < maxRulePeriod+1 && sumBig(r.Period).Cmp(sumBig(r.Alpha, r.Most)) > 0
}

// leftAsIs asks of each seal whether it is right, and behind the one ahead of it.
func leftAsIs(keys []int64, list []impl.Seal) bool {
	ahead := int64(0)
	for _, s := range list {
		right, is := sealWant(keys, s.Round, s.Node)
		if !is || s != right || 16*s.Round+s.Node <= ahead {
			return false
		}
		ahead = 16*s.Round + s.Node
	}
	return true
}

func peerWant(keys []int64, p impl.Peer) bool {
	if p.Off <= -maxOff-1 || p.Off >= maxOff+1 || p.Next <= 0 || p.Next >= maxRounds+1 || !leftAsIs(keys, p.Seals) {
		return false
	}
	for _, s := range p.Seals {
		if s.Round != p.Next && s.Round != p.Next+1 && s.Round != p.Next+2 {
			return false
		}
	}
	return true
}

func parcelWant(c impl.Court, p impl.Parcel) bool {
	if p.To < 0 || p.To >= int64(len(c.Lies)) || c.Lies[p.To] || p.Due <= c.Now || p.Due >= c.Now+c.Rule.Most+1 || len(p.Seals) >= maxSeals+1 {
		return false
	}
	for _, s := range p.Seals {
		if right, is := sealWant(c.Keys, s.Round, s.Node); !is || s != right {
			return false
		}
	}
	return true
}

func factWant(c impl.Court, f impl.Fact) bool {
	return f.Node >= 0 && f.Node < int64(len(c.Lies)) && !c.Lies[f.Node] && f.Round > 0 && f.Round < maxRounds+1 && f.At > -1 && f.At < c.Now+1
}

func courtWant(c impl.Court) bool {
	nodes := int(c.Rule.Nodes)
	if !ruleWant(c.Rule) || !keysWant(c.Keys) || len(c.Keys) != nodes || len(c.Lies) != nodes || len(c.Peers) != nodes || c.Now <= -1 || c.Now >= maxNow+1 {
		return false
	}
	liars := int64(0)
	for node := range nodes {
		if c.Lies[node] {
			liars++
		}
		if !peerWant(c.Keys, c.Peers[node]) {
			return false
		}
	}
	if liars > c.Rule.Liars || !leftAsIs(c.Keys, c.Made) || len(c.Parcels) >= maxParcels+1 || len(c.Facts) >= maxFacts+1 {
		return false
	}
	return !slices.ContainsFunc(c.Parcels, func(p impl.Parcel) bool { return !parcelWant(c, p) }) &&
		!slices.ContainsFunc(c.Facts, func(f impl.Fact) bool { return !factWant(c, f) })
}

func newCourtWant(r impl.Rule, keys []int64, offs []int64, lies []bool) (impl.Court, bool) {
	c := impl.Court{Rule: r, Keys: keys, Lies: lies}
	for _, off := range offs {
		c.Peers = append(c.Peers, peer(off, 1, false))
	}
	if !courtWant(c) {
		return impl.Court{}, false
	}
	return c, true
}

// checkReading is told whether the court is right.
func checkReading(t *testing.T, c impl.Court, node int64, ok bool) {
	t.Helper()
	want, wantIs := int64(0), false
	if ok && node >= 0 && node < int64(len(c.Peers)) {
		want, wantIs = c.Now+c.Peers[node].Off, true
	}
	if got, is := impl.ReadingOf(c, node); got != want || is != wantIs {
		t.Fatalf("ReadingOf(%+v, %d) = %d, %v, want %d, %v", c, node, got, is, want, wantIs)
	}
}

// checkCourt holds every function that takes a court against a reckoning of the tests' own.
func checkCourt(t *testing.T, c impl.Court) {
	t.Helper()
	ok := courtWant(c)
	if got := impl.CourtOk(c); got != ok {
		t.Fatalf("CourtOk(%+v) = %v, want %v", c, got, ok)
	}
	honest := []int64{}
	for node, liar := range c.Lies {
		if ok && !liar {
			honest = append(honest, int64(node))
		}
	}
	if got := impl.HonestIn(c); !slices.Equal(got, honest) {
		t.Fatalf("HonestIn(%+v) = %v, want %v", c, got, honest)
	}
	for node := int64(-2); node <= int64(len(c.Peers))+1; node++ {
		checkReading(t, c, node, ok)
	}
	for _, far := range farEdges() {
		checkReading(t, c, far.n, ok)
	}
}

// checkCourtOk also says, beside the reckoning, what the answer must be.
func checkCourtOk(t *testing.T, c impl.Court, want bool) {
	t.Helper()
	if got := impl.CourtOk(c); got != want {
		t.Fatalf("CourtOk(%+v) = %v", c, got)
	}
	checkCourt(t, c)
}

// checkCourtIs also says what each clock shows, and who does not lie.
func checkCourtIs(t *testing.T, c impl.Court, readings []int64, honest ...int64) {
	t.Helper()
	checkCourtOk(t, c, true)
	for node, want := range readings {
		if got, is := impl.ReadingOf(c, int64(node)); got != want || !is {
			t.Fatalf("ReadingOf(%+v, %d) = %d, %v, want %d", c, node, got, is, want)
		}
	}
	if got := impl.HonestIn(c); !slices.Equal(got, honest) || len(readings) != len(c.Peers) {
		t.Fatalf("HonestIn(%+v) = %v, want %v", c, got, honest)
	}
}

// checkRule also says what the answer must be; it must be that of the rule's court, too.
func checkRule(t *testing.T, r impl.Rule, want bool) {
	t.Helper()
	if got := impl.RuleOk(r); got != want || ruleWant(r) != want {
		t.Fatalf("RuleOk(%+v) = %v, want %v", r, got, want)
	}
	c := bareCourt(r)
	if got := impl.CourtOk(c); got != want {
		t.Fatalf("CourtOk(%+v) = %v, want %v", c, got, want)
	}
	if got, is := impl.NewCourt(r, c.Keys, make([]int64, len(c.Keys)), c.Lies); is != want || want && !sameCourt(got, c) {
		t.Fatalf("NewCourt of %+v = %+v, %v, want %v", r, got, is, want)
	}
}

// checkNewCourt is P12, in its own words and against the reckoning.
func checkNewCourt(t *testing.T, r impl.Rule, keys []int64, offs []int64, liars []bool) bool {
	t.Helper()
	c, is := impl.NewCourt(r, keys, offs, liars)
	want, wantIs := newCourtWant(r, keys, offs, liars)
	if is != wantIs || !sameCourt(c, want) {
		t.Fatalf("NewCourt(%+v, %v, %v, %v) = %+v, %v, want %+v, %v", r, keys, offs, liars, c, is, want, wantIs)
	}
	if impl.CourtOk(c) != is {
		t.Fatalf("NewCourt says %v, but CourtOk(%+v) says %v", is, c, !is)
	}
	if !is {
		return false
	}
	if len(c.Facts) != 0 || len(c.Parcels) != 0 || len(c.Made) != 0 || c.Now != 0 || len(c.Peers) != len(offs) {
		t.Fatalf("the new court %+v has something", c)
	}
	for node, off := range offs {
		if p := c.Peers[node]; p.Off != off || p.Next != 1 || p.Signed || len(p.Seals) != 0 {
			t.Fatalf("the node %d of a new court is %+v, want the off %d", node, p, off)
		}
		if shown, has := impl.ReadingOf(c, int64(node)); shown != off || !has {
			t.Fatalf("the node %d of %+v shows %d, %v", node, c, shown, has)
		}
	}
	checkCourt(t, c)
	return true
}

// checkNewCourtIs also says whether there is one.
func checkNewCourtIs(t *testing.T, r impl.Rule, keys []int64, offs []int64, liars []bool, want bool) {
	t.Helper()
	if is := checkNewCourt(t, r, keys, offs, liars); is != want {
		t.Fatalf("NewCourt(%+v, %v, %v, %v) says %v", r, keys, offs, liars, is)
	}
}

// edgesWithin are numbers at both ends of a range, and far from it.
func edgesWithin(lo int64, hi int64) []edge {
	list := []edge{{lo, true}, {hi, true}, {lo - 1, false}, {lo - 2, false}, {hi + 1, false}, {hi + 2, false}, {lo + (hi-lo)/2, true}}
	for _, far := range farEdges() {
		list = append(list, edge{far.n, lo <= far.n && far.n <= hi})
	}
	return list
}

func TestCourtLimits(t *testing.T) {
	if impl.MaxParcels != maxParcels || impl.MaxNow != maxNow || impl.MaxFacts != maxFacts {
		t.Error(impl.MaxParcels, impl.MaxNow, impl.MaxFacts)
	}
}

func TestOrdinaryRules(t *testing.T) {
	checkRule(t, plainRule(), true)
	checkRule(t, rule(3, 1, 10, 2, 1, 3), true)
	checkRule(t, rule(1, 0, 2, 0, 1, 1), true)
	checkRule(t, rule(4, 1, 100000, 50, 10, 90), true)
	checkRule(t, rule(7, 3, 1000, 0, 5, 5), true)
	checkRule(t, rule(16, 7, 100000, 98999, 1, 1000), true)
	checkRule(t, rule(6, 3, 1000, 0, 5, 5), false)
	checkRule(t, rule(5, 2, 100, 7, 20, 3), false)
	checkRule(t, rule(5, 2, 27, 7, 3, 20), false)
	checkRule(t, rule(5, 2, 100, 7, 0, 20), false)
	checkRule(t, rule(5, 2, 100, -7, 3, 20), false)
	checkRule(t, rule(5, -2, 100, 7, 3, 20), false)
	checkRule(t, rule(17, 2, 100, 7, 3, 20), false)
	checkRule(t, rule(5, 2, 200000, 7, 3, 20), false)
	checkRule(t, rule(5, 2, 20000, 7, 3, 2000), false)
	checkRule(t, impl.Rule{}, false)
}

// ruleNumbers are in the order in which the document names them.
func ruleNumbers(r *impl.Rule) []*int64 {
	return []*int64{&r.Nodes, &r.Liars, &r.Period, &r.Alpha, &r.Least, &r.Most}
}

// Of each rule the numbers at their least and their greatest, and one beyond either, the others staying as they are.
func TestEachNumberOfRules(t *testing.T) {
	for _, c := range []struct {
		r      impl.Rule
		ranges [6]impl.Span
	}{
		{plainRule(), [6]impl.Span{span(5, 16), span(0, 2), span(28, 100000), span(0, 79), span(1, 20), span(3, 92)}},
		{rule(1, 0, 2, 0, 1, 1), [6]impl.Span{span(1, 16), span(0, 0), span(2, 100000), span(0, 0), span(1, 1), span(1, 1)}},
		{rule(15, 7, 3, 1, 1, 1), [6]impl.Span{span(15, 16), span(0, 7), span(3, 100000), span(0, 1), span(1, 1), span(1, 1)}},
		{rule(16, 0, 100000, 0, 1, 1000), [6]impl.Span{span(1, 16), span(0, 7), span(1001, 100000), span(0, 98999), span(1, 1000), span(1, 1000)}},
		{rule(16, 7, 100000, 98999, 1000, 1000), [6]impl.Span{span(15, 16), span(0, 7), span(100000, 100000), span(0, 98999), span(1, 1000), span(1000, 1000)}},
		{rule(9, 3, 5000, 2500, 2, 400), [6]impl.Span{span(7, 16), span(0, 4), span(2901, 100000), span(0, 4599), span(1, 400), span(2, 1000)}},
	} {
		checkRule(t, c.r, true)
		for which, within := range c.ranges {
			for _, n := range edgesWithin(within.Lo, within.Hi) {
				r := c.r
				*ruleNumbers(&r)[which] = n.n
				checkRule(t, r, n.ok)
			}
		}
	}
}

func TestNodesAndLiarsOfRules(t *testing.T) {
	for nodes := int64(-3); nodes <= 40; nodes++ {
		for liars := int64(-3); liars <= 20; liars++ {
			right := nodes >= 1 && nodes <= 16 && liars >= 0 && nodes >= 2*liars+1
			checkRule(t, rule(nodes, liars, 100, 7, 3, 20), right)
		}
	}
	for liars := int64(0); liars <= 7; liars++ {
		checkRule(t, rule(2*liars, liars, 100, 7, 3, 20), false)
		checkRule(t, rule(2*liars+1, liars, 100, 7, 3, 20), true)
	}
}

// A Period of just Alpha and Most is too short, one more is long enough; and Alpha and Most by turns.
func TestPeriodAlphaAndMost(t *testing.T) {
	for _, alpha := range []int64{0, 1, 2, 7, 100, 1000, 50000, 98998, 98999} {
		for _, most := range []int64{1, 2, 20, 999, 1000} {
			for _, least := range []int64{1, most} {
				checkRule(t, rule(3, 1, alpha+most-1, alpha, least, most), false)
				checkRule(t, rule(3, 1, alpha+most, alpha, least, most), false)
				checkRule(t, rule(3, 1, alpha+most+1, alpha, least, most), true)
				checkRule(t, rule(3, 1, maxRulePeriod, alpha, least, most), true)
				checkRule(t, rule(3, 1, maxRulePeriod+1, alpha, least, most), false)
			}
		}
	}
	checkRule(t, rule(3, 1, maxRulePeriod, 99000, 1, 1000), false)
	checkRule(t, rule(3, 1, maxRulePeriod, 99000, 1, 999), true)
	checkRule(t, rule(3, 1, maxRulePeriod, 99999, 1, 1), false)
	checkRule(t, rule(3, 1, maxRulePeriod, 99998, 1, 1), true)
	checkRule(t, rule(3, 1, maxRulePeriod+1, 99000, 1, 1000), false)
}

// Least goes up to Most, Most down to Least, whatever the Period.
func TestLeastAndMost(t *testing.T) {
	for _, least := range []int64{-1, 0, 1, 2, 20, 999, 1000, 1001, 1002} {
		for _, most := range []int64{-1, 0, 1, 2, 20, 999, 1000, 1001, 1002} {
			for _, period := range []int64{2000, maxRulePeriod} {
				checkRule(t, rule(3, 1, period, 0, least, most), least >= 1 && least <= most && most <= 1000)
			}
		}
	}
}

// Numbers of which a sum, a difference or a double comes round to one that would do.
func TestRulesWhoseSumsWrapRound(t *testing.T) {
	for _, liars := range []int64{math.MaxInt64, math.MinInt64, 1 << 62, 1<<62 + 1, 1<<62 - 1, math.MaxInt64 / 2, -1 << 62, -1<<62 - 1, math.MinInt64 + 2} {
		for _, nodes := range []int64{1, 3, 5, 16, math.MaxInt64, math.MinInt64} {
			checkRule(t, rule(nodes, liars, 100, 7, 3, 20), false)
		}
	}
	for _, most := range []int64{1, 3, 20, 1000, math.MaxInt64, math.MinInt64} {
		for _, alpha := range []int64{math.MaxInt64, math.MaxInt64 - 1, math.MaxInt64 - 2, math.MaxInt64 - 999, math.MaxInt64 - 1000, math.MinInt64, math.MinInt64 + 1, -1000, -1001} {
			for _, period := range []int64{1, 2, 1001, maxRulePeriod, math.MaxInt64, math.MinInt64, math.MinInt64 + 1, math.MinInt64 + 1000} {
				checkRule(t, rule(5, 2, period, alpha, 1, most), false)
			}
		}
	}
	for _, period := range []int64{math.MinInt64, math.MinInt64 + 1, math.MinInt64 + 1000, math.MinInt64 + 1001, math.MaxInt64, 1 << 32, 1<<32 + 100, -1, 0} {
		for _, alpha := range []int64{0, 7, 98999} {
			checkRule(t, rule(5, 2, period, alpha, 1, 20), false)
		}
	}
}

// eachNumbers puts some numbers into every place, in every way, one place more at each step.
func eachNumbers(places []*int64, numbers []int64, call func()) {
	if len(places) == 0 {
		call()
		return
	}
	for _, n := range numbers {
		*places[0] = n
		eachNumbers(places[1:], numbers, call)
	}
}

// Every rule of small numbers, and every one of numbers at the edges.
func TestRulesOfEveryKind(t *testing.T) {
	right := 0
	for _, numbers := range [][]int64{{-1, 0, 1, 2, 3, 5}, {0, 1, 7, 15, 16, 1000}, {1, 16, 998, 1000, 1001, 100000}, {math.MinInt64, -1, 1, 3, 100000, math.MaxInt64}} {
		r := impl.Rule{}
		eachNumbers(ruleNumbers(&r), numbers, func() {
			want := ruleWant(r)
			if impl.RuleOk(r) != want {
				t.Fatalf("RuleOk(%+v) = %v", r, !want)
			}
			if want {
				right++
				checkRule(t, r, true)
			}
		})
	}
	if right == 0 {
		t.Error("not one of the rules was right")
	}
}

func TestOrdinaryCourts(t *testing.T) {
	checkCourtIs(t, plainCourt(), []int64{55, 43, 110, 50, -950}, 0, 2, 3)
	checkCourtIs(t, bareCourt(rule(1, 0, 2, 0, 1, 1)), []int64{0}, 0)
	c := bareCourt(rule(3, 1, 10, 2, 1, 3))
	checkCourtIs(t, c, []int64{0, 0, 0}, 0, 1, 2)
	c.Now, c.Peers[0].Off, c.Peers[1].Off, c.Peers[2].Off = 70, -70, -71, 1000
	checkCourtIs(t, c, []int64{0, -1, 1070}, 0, 1, 2)
	c.Lies[0] = true
	checkCourtIs(t, c, []int64{0, -1, 1070}, 1, 2)
	c.Lies[0], c.Lies[2] = false, true
	checkCourtIs(t, c, []int64{0, -1, 1070}, 0, 1)
	c.Lies[0] = true
	checkCourtOk(t, c, false)
	checkCourtOk(t, impl.Court{}, false)
}

// An empty list and nil are one.
func TestCourtsOfEmptyLists(t *testing.T) {
	bare := bareCourt(plainRule())
	for set := range 16 {
		c := cloneCourt(bare)
		if set&1 != 0 {
			c.Parcels = []impl.Parcel{}
		}
		if set&2 != 0 {
			c.Made = []impl.Seal{}
		}
		if set&4 != 0 {
			c.Facts = []impl.Fact{}
		}
		if set&8 != 0 {
			c.Peers[2].Seals = []impl.Seal{}
		}
		checkCourtOk(t, c, true)
		c.Parcels = append(c.Parcels, parcel(1, 0), impl.Parcel{Due: 2, To: 1, Seals: []impl.Seal{}})
		checkCourtOk(t, c, true)
	}
}

// Whatever is wrong with the rule, there is no court of it.
func TestCourtsOfWrongRules(t *testing.T) {
	for which, within := range []impl.Span{span(5, 5), span(2, 2), span(28, maxRulePeriod), span(0, 79), span(1, 20), span(10, 92)} {
		for _, n := range edgesWithin(within.Lo, within.Hi) {
			checkCourtOk(t, changed(func(c *impl.Court) { *ruleNumbers(&c.Rule)[which] = n.n }), n.ok)
		}
	}
	checkCourtOk(t, changed(func(c *impl.Court) { c.Rule = impl.Rule{} }), false)
}

// sized makes a list shorter, or longer by its own first ones.
func sized[T any](list []T, size int) []T {
	for len(list) < size {
		list = append(list, list[0])
	}
	return list[:size]
}

// Keys, Lies and Peers of every size up to some too many: one list alone, and all of one size that Nodes do not tell.
func TestHowManyOfEach(t *testing.T) {
	for nodes := int64(1); nodes <= 16; nodes++ {
		bare := bareCourt(rule(nodes, 0, 100, 7, 3, 20))
		for size := range 20 {
			right := size == int(nodes)
			all := cloneCourt(bare)
			for which := range 3 {
				c := cloneCourt(bare)
				for _, each := range []*impl.Court{&c, &all} {
					switch which {
					case 0:
						each.Keys = sized(each.Keys, size)
					case 1:
						each.Lies = sized(each.Lies, size)
					case 2:
						each.Peers = sized(each.Peers, size)
					}
				}
				checkCourtOk(t, c, right)
				checkCourtOk(t, all, right)
			}
			for _, r := range []int64{nodes - 1, nodes, nodes + 1} {
				all.Rule.Nodes = r
				checkCourtOk(t, all, r == int64(size) && r > 0 && r < 17)
			}
		}
	}
	checkCourtOk(t, changed(func(c *impl.Court) { c.Keys = nil }), false)
	checkCourtOk(t, changed(func(c *impl.Court) { c.Lies = nil }), false)
	checkCourtOk(t, changed(func(c *impl.Court) { c.Peers = nil }), false)
	checkCourtOk(t, changed(func(c *impl.Court) { c.Keys, c.Lies, c.Peers = nil, nil, nil }), false)
}

// Two lists too long by one and one too short, in every way.
func TestSizesThatDoNotGoTogether(t *testing.T) {
	for _, keys := range []int{4, 5, 6} {
		for _, liars := range []int{4, 5, 6} {
			for _, peers := range []int{4, 5, 6} {
				for _, nodes := range []int64{4, 5, 6} {
					c := bareCourt(rule(nodes, 1, 100, 7, 3, 20))
					c.Keys, c.Lies, c.Peers = sized(c.Keys, keys), sized(c.Lies, liars), sized(c.Peers, peers)
					checkCourtOk(t, c, keys == int(nodes) && liars == int(nodes) && peers == int(nodes))
				}
			}
		}
	}
}

func TestEachKeyOfCourts(t *testing.T) {
	for _, key := range aroundKeys() {
		for nodes := int64(1); nodes <= 16; nodes++ {
			for place := range nodes {
				c := bareCourt(rule(nodes, (nodes-1)/2, 100, 7, 3, 20))
				c.Keys[place] = key.n
				checkCourtOk(t, c, key.want)
				c.Lies[place] = nodes > 2
				checkCourtOk(t, c, key.want)
			}
		}
	}
}

// With another key the seals of that node are no right ones any more; where there is none by it, nothing changes.
func TestSealsOfOtherKeys(t *testing.T) {
	for node := range 5 {
		checkCourtOk(t, changed(func(c *impl.Court) { c.Keys[node]++ }), false)
		for which := range 3 {
			c := bareCourt(plainRule())
			c.Keys = fiveKeys()
			s := signed(c.Keys, 2, int64(node))
			switch which {
			case 0:
				c.Peers[4].Seals = []impl.Seal{s}
			case 1:
				c.Parcels = []impl.Parcel{parcel(20, 1, s)}
			case 2:
				c.Made = []impl.Seal{s}
			}
			checkCourtOk(t, c, true)
			for other := range 5 {
				c.Keys[other]++
				checkCourtOk(t, c, other != node)
				c.Keys[other]--
			}
		}
	}
}

// Every set of liars, and every count of them that may be.
func TestWhoLies(t *testing.T) {
	for nodes := int64(1); nodes <= 7; nodes++ {
		for set := range 1 << nodes {
			for most := int64(0); most <= (nodes-1)/2; most++ {
				c := bareCourt(rule(nodes, most, 100, 7, 3, 20))
				c.Lies = liarsOf(nodes, set)
				checkCourtOk(t, c, bitsIn(set) <= most)
			}
		}
	}
	for most := int64(0); most <= 7; most++ {
		for place := range 16 {
			c := bareCourt(rule(16, most, 100, 7, 3, 20))
			for i := range most {
				c.Lies[(place+int(3*i))%16] = true
			}
			checkCourtOk(t, c, true)
			c.Lies[(place+int(3*most))%16] = true
			checkCourtOk(t, c, false)
		}
	}
	checkCourtOk(t, changed(func(c *impl.Court) { c.Lies[3] = true; c.Parcels, c.Facts = nil, nil }), false)
	checkCourtOk(t, changed(func(c *impl.Court) { c.Lies[1], c.Lies[4] = false, false }), true)
}

// Each Off at its edges, of those that lie, too; and what the clock shows then, at each end of Now.
func TestEachOff(t *testing.T) {
	for node := range 5 {
		for _, off := range append(edgesWithin(-maxOff, maxOff), edge{0, true}, edge{-50, true}) {
			for _, now := range []int64{0, 50, maxNow} {
				c := changed(func(c *impl.Court) { c.Parcels, c.Facts = nil, nil })
				c.Now, c.Peers[node].Off = now, off.n
				checkCourtOk(t, c, off.ok)
				if shown, is := impl.ReadingOf(c, int64(node)); is != off.ok || is && shown != now+off.n {
					t.Fatalf("at %d, off by %d, the clock shows %d, %v", now, off.n, shown, is)
				}
			}
		}
	}
}

// Each Next at its edges, of those that lie, too, whether it is signed or not.
func TestEachNext(t *testing.T) {
	for node := range 5 {
		for _, next := range edgesWithin(1, maxRounds) {
			for _, hasSigned := range []bool{false, true} {
				checkCourtOk(t, changed(func(c *impl.Court) { c.Peers[node] = peer(3, next.n, hasSigned) }), next.ok)
			}
		}
	}
}

// The Seals of a Peer are of the round that it waits for and of the two behind it, whatever else is there.
func TestRoundsOfPeers(t *testing.T) {
	keys := fiveKeys()
	for node := range 5 {
		for _, next := range []int64{1, 2, 3, 500, 996, 997, 998, 999, 1000} {
			kept := []impl.Seal{}
			for round := next; round <= min(next+2, maxRounds); round++ {
				kept = append(kept, signedByAll(keys, round)...)
			}
			checkCourtOk(t, changed(func(c *impl.Court) { c.Peers[node] = peer(0, next, true, kept...) }), true)
			for round := max(1, next-3); round <= min(next+5, maxRounds); round++ {
				for by := range int64(5) {
					s, right := signed(keys, round, by), round >= next && round <= next+2
					checkCourtOk(t, changed(func(c *impl.Court) { c.Peers[node] = peer(0, next, false, s) }), right)
					if !right {
						with := mergedWant(keys, kept, []impl.Seal{s})
						checkCourtOk(t, changed(func(c *impl.Court) { c.Peers[node] = peer(0, next, true, with...) }), false)
					}
				}
			}
			for _, round := range []int64{0, -1, 1001, 1002, 1003, math.MaxInt64, math.MinInt64} {
				s := seal(round, 2, tagWant(keys[2], round, 2))
				checkCourtOk(t, changed(func(c *impl.Court) { c.Peers[node] = peer(0, next, true, s) }), false)
			}
		}
	}
}

// spoiledSeals are a list of right ones, which rises, each with one fault: two of them the other way round, one twice, or not right.
func spoiledSeals(list []impl.Seal) [][]impl.Seal {
	spoiled := [][]impl.Seal{}
	for i, s := range list {
		for _, place := range spots(len(list)) {
			spoiled = append(spoiled, slices.Insert(slices.Clone(list), place, s))
		}
		if i > 0 {
			turned := slices.Clone(list)
			turned[i-1], turned[i] = s, list[i-1]
			spoiled = append(spoiled, turned)
		}
		for _, wrong := range wrongSeals(s) {
			with := slices.Clone(list)
			with[i] = wrong
			spoiled = append(spoiled, with)
		}
	}
	return spoiled
}

// wrongSeals are near a right one of fiveKeys, but not right themselves.
func wrongSeals(s impl.Seal) []impl.Seal {
	return []impl.Seal{
		tagged(s, 1), tagged(s, -1), tagged(s, tagEnd), tagged(s, -tagEnd), seal(s.Round, s.Node, 0), {},
		seal(s.Round, 5, s.Tag), seal(s.Round, -1, s.Tag), seal(s.Round, (s.Node+1)%5, s.Tag), seal(s.Round, 5, tagWant(11, s.Round, 5)),
		seal(s.Round+1, s.Node, s.Tag), seal(0, s.Node, tagWant(11, 0, s.Node)), seal(math.MinInt64, math.MaxInt64, s.Tag),
	}
}

// The Seals of each Peer rise, and all of them are right.
func TestSealsOfPeers(t *testing.T) {
	keys := fiveKeys()
	for node := range 5 {
		for _, list := range [][]impl.Seal{signedBy(keys, 7, 3), signedBy(keys, 7, 0, 2, 4), append(signedBy(keys, 7, 1, 4), signedBy(keys, 9, 0, 1)...), signedByAll(keys, 7, 8, 9)} {
			checkCourtOk(t, changed(func(c *impl.Court) { c.Peers[node] = peer(0, 7, false, list...) }), true)
			for _, spoiled := range spoiledSeals(list) {
				checkCourtOk(t, changed(func(c *impl.Court) { c.Peers[node] = peer(0, 7, false, spoiled...) }), false)
			}
		}
	}
}

// Four seals of a Peer in every order: in one alone they rise.
func TestOrdersOfPeerSeals(t *testing.T) {
	keys := fiveKeys()
	rising := append(signedBy(keys, 7, 1, 3), signedBy(keys, 8, 0, 3)...)
	right := 0
	eachOrder(rising, func(list []impl.Seal) {
		asPeer := changed(func(c *impl.Court) { c.Peers[1] = peer(0, 7, false, list...) })
		asMade := changed(func(c *impl.Court) { c.Made = list })
		asParcel := changed(func(c *impl.Court) { c.Parcels[1].Seals = list })
		checkCourtOk(t, asPeer, slices.Equal(list, rising))
		checkCourtOk(t, asMade, slices.Equal(list, rising))
		checkCourtOk(t, asParcel, true)
		if impl.CourtOk(asPeer) && impl.CourtOk(asMade) {
			right++
		}
	})
	if right != 1 {
		t.Errorf("in %d orders they rise", right)
	}
}

// Peers that have all that they can: three rounds of sixteen nodes.
func TestFullPeers(t *testing.T) {
	c := bareCourt(rule(16, 7, 100, 7, 3, 20))
	c.Keys = upTo(16)
	c.Lies = liarsOf(16, 0b0101010101010100)
	for node := range c.Peers {
		first := int64(node + 1)
		c.Peers[node] = peer(int64(-node), first, true, signedByAll(c.Keys, first, first+1, first+2)...)
	}
	checkCourtOk(t, c, true)
	for node := range c.Peers {
		last := len(c.Peers[node].Seals) - 1
		for _, place := range []int{0, 16, last} {
			spoiled := cloneCourt(c)
			spoiled.Peers[node].Seals[place].Tag++
			checkCourtOk(t, spoiled, false)
		}
		spoiled := cloneCourt(c)
		spoiled.Peers[node].Next--
		checkCourtOk(t, spoiled, false)
		spoiled.Peers[node].Next += 2
		checkCourtOk(t, spoiled, false)
	}
}

// withParcel has one parcel, or one more among others.
func withParcel(p impl.Parcel, alone bool) impl.Court {
	return changed(func(c *impl.Court) {
		if alone {
			c.Parcels = nil
		}
		c.Parcels = append(c.Parcels, p)
	})
}

func TestDueOfParcels(t *testing.T) {
	for _, due := range edgesWithin(51, 70) {
		for _, alone := range []bool{false, true} {
			checkCourtOk(t, withParcel(parcel(due.n, 3), alone), due.ok)
			checkCourtOk(t, withParcel(parcel(due.n, 0, signed(fiveKeys(), 1, 1)), alone), due.ok)
			checkCourtOk(t, withParcel(parcel(due.n, 1), alone), false)
		}
	}
	// It may be behind MaxNow, and where Least is more than 1 it need not be so late as Least.
	for _, now := range []int64{0, 1, 99, maxNow - 20, maxNow - 1, maxNow} {
		for _, most := range []int64{1, 2, 20, 1000} {
			for _, due := range edgesWithin(now+1, now+most) {
				c := bareCourt(rule(3, 1, 2000, 7, most, most))
				c.Now, c.Parcels = now, []impl.Parcel{parcel(due.n, 2)}
				checkCourtOk(t, c, due.ok)
			}
		}
	}
}

func TestToWhomParcelsAre(t *testing.T) {
	for _, to := range append(farEdges(), edge{0, true}, edge{1, false}, edge{2, true}, edge{3, true}, edge{4, false}, edge{5, false}, edge{6, false}, edge{-1, false}, edge{-2, false}) {
		for _, alone := range []bool{false, true} {
			checkCourtOk(t, withParcel(parcel(60, to.n), alone), to.ok)
			checkCourtOk(t, withParcel(parcel(60, to.n, signed(fiveKeys(), 1, 1)), alone), to.ok)
		}
	}
	for nodes := int64(1); nodes <= 16; nodes++ {
		for to := int64(-2); to <= 17; to++ {
			for liar := range nodes {
				c := bareCourt(rule(nodes, (nodes-1)/2, 100, 7, 3, 20))
				c.Lies[liar], c.Parcels = nodes > 2, []impl.Parcel{parcel(1, to)}
				checkCourtOk(t, c, to >= 0 && to < nodes && !c.Lies[to])
			}
		}
	}
}

// The Seals of a Parcel are right, at most MaxSeals; of any rounds, in any order, and twice.
func TestSealsOfParcels(t *testing.T) {
	keys := fiveKeys()
	for count := range maxSeals + 4 {
		same := slices.Repeat([]impl.Seal{signed(keys, 1000, 4)}, count)
		many := signedByAll(keys, 1, 2, 3, 4, 5, 6, 7, 8, 9, 10, 11)[:count]
		falling := slices.Clone(many)
		slices.Reverse(falling)
		for _, list := range [][]impl.Seal{same, many, falling} {
			for _, alone := range []bool{false, true} {
				checkCourtOk(t, withParcel(parcel(60, 2, list...), alone), count < 49)
			}
		}
		for place := range count {
			for _, wrong := range wrongSeals(many[place]) {
				list := slices.Clone(many)
				list[place] = wrong
				if impl.CourtOk(withParcel(parcel(60, 2, list...), true)) {
					t.Fatalf("%+v is wrong, at %d of %d", wrong, place, count)
				}
			}
		}
	}
	checkCourtOk(t, withParcel(parcel(60, 2, wrongSeals(signed(keys, 3, 3))...), false), false)
}

// Parcels as many as may be, and one more; and a wrong one of them at every place.
func TestHowManyParcels(t *testing.T) {
	for _, some := range []impl.Parcel{parcel(51, 0), parcel(70, 3, signed(fiveKeys(), 2, 1))} {
		for _, count := range []int{0, 1, 2, 255, 256, 2999, 3000, 3001, 3002, 6000} {
			c := changed(func(c *impl.Court) { c.Parcels = slices.Repeat([]impl.Parcel{some}, count) })
			checkCourtOk(t, c, count < 3001)
		}
		for _, place := range []int{0, 1, 1499, 2998, 2999} {
			c := changed(func(c *impl.Court) { c.Parcels = slices.Repeat([]impl.Parcel{some}, maxParcels) })
			c.Parcels[place].To = 1
			checkCourtOk(t, c, false)
			c.Parcels[place] = parcel(71, 0)
			checkCourtOk(t, c, false)
			c.Parcels[place] = parcel(70, 0, impl.Seal{})
			checkCourtOk(t, c, false)
		}
	}
}

// Now at its edges; what there is of parcels and facts must go by it.
func TestNowOfCourts(t *testing.T) {
	for _, now := range edgesWithin(0, maxNow) {
		checkCourtOk(t, changed(func(c *impl.Court) { c.Now, c.Parcels, c.Facts = now.n, nil, nil }), now.ok)
		c := bareCourt(plainRule())
		c.Now = now.n
		checkCourtOk(t, c, now.ok)
		c.Facts = []impl.Fact{fact(0, 1, now.n)}
		checkCourtOk(t, c, now.ok)
		c.Parcels = []impl.Parcel{parcel(now.n+1, 0)}
		checkCourtOk(t, c, now.ok)
	}
	// The last fact is at 40, the first parcel due at 55, the last one at 60.
	for now := int64(30); now <= 80; now++ {
		checkCourtOk(t, changed(func(c *impl.Court) { c.Now = now }), now >= 40 && now < 55)
		checkCourtOk(t, changed(func(c *impl.Court) { c.Now, c.Facts = now, nil }), now >= 40 && now < 55)
		checkCourtOk(t, changed(func(c *impl.Court) { c.Now, c.Parcels = now, nil }), now >= 40)
	}
}

// What was made rises, and is right: of any rounds, by any nodes.
func TestMadeOfCourts(t *testing.T) {
	keys := fiveKeys()
	for _, list := range [][]impl.Seal{signedBy(keys, 1, 0), signedBy(keys, 1000, 4), append(signedBy(keys, 1, 0, 1, 3), signedBy(keys, 2, 1, 4)...), append(signedByAll(keys, 1, 500), signedBy(keys, 1000, 1)...)} {
		checkCourtOk(t, changed(func(c *impl.Court) { c.Made = list }), true)
		for _, spoiled := range spoiledSeals(list) {
			checkCourtOk(t, changed(func(c *impl.Court) { c.Made = spoiled }), false)
		}
	}
	for _, spoiled := range spoiledSeals(plainCourt().Made) {
		checkCourtOk(t, changed(func(c *impl.Court) { c.Made = spoiled }), false)
	}
	for round := int64(1); round <= maxRounds; round++ {
		if !impl.CourtOk(changed(func(c *impl.Court) { c.Made = signedBy(keys, round, round%5) })) {
			t.Fatalf("a seal of round %d was made", round)
		}
	}
}

// All seals of all rounds that there can be.
func TestAllThatCanBeMade(t *testing.T) {
	for _, nodes := range []int64{1, 16} {
		c := bareCourt(rule(nodes, 0, 100, 7, 3, 20))
		c.Made = everyRound(c.Keys)
		if !impl.CourtOk(c) || len(impl.HonestIn(c)) != int(nodes) {
			t.Errorf("%d seals are wrong", len(c.Made))
		}
		for _, place := range []int{0, 1, 499, len(c.Made) - 2, len(c.Made) - 1} {
			spoiled := cloneCourt(c)
			spoiled.Made[place].Tag++
			if impl.CourtOk(spoiled) {
				t.Errorf("%d seals are right, but that at %d is wrong", len(c.Made), place)
			}
		}
		c.Made = append(c.Made, c.Made[0])
		if impl.CourtOk(c) {
			t.Errorf("the first of %d seals is there twice", len(c.Made))
		}
	}
}

// withFact has one fact, or one more among others.
func withFact(f impl.Fact, alone bool) impl.Court {
	return changed(func(c *impl.Court) {
		if alone {
			c.Facts = nil
		}
		c.Facts = append(c.Facts, f)
	})
}

func TestEachNumberOfFacts(t *testing.T) {
	for _, alone := range []bool{false, true} {
		for _, node := range append(farEdges(), edge{0, true}, edge{1, false}, edge{2, true}, edge{3, true}, edge{4, false}, edge{5, false}, edge{6, false}, edge{-1, false}, edge{-2, false}) {
			checkCourtOk(t, withFact(fact(node.n, 2, 9), alone), node.ok)
		}
		for _, round := range edgesWithin(1, maxRounds) {
			checkCourtOk(t, withFact(fact(3, round.n, 9), alone), round.ok)
			checkCourtOk(t, withFact(fact(4, round.n, 9), alone), false)
		}
		for _, at := range edgesWithin(0, 50) {
			checkCourtOk(t, withFact(fact(3, 2, at.n), alone), at.ok)
			checkCourtOk(t, withFact(fact(1, 2, at.n), alone), false)
		}
	}
	for _, now := range []int64{0, 1, 99, maxNow - 1, maxNow} {
		for _, at := range edgesWithin(0, now) {
			c := bareCourt(plainRule())
			c.Now, c.Facts = now, []impl.Fact{fact(4, 1000, at.n)}
			checkCourtOk(t, c, at.ok)
		}
	}
}

// Each fact of each node, where each of them lies and where none does.
func TestFactsOfEachNode(t *testing.T) {
	for nodes := int64(1); nodes <= 16; nodes++ {
		for node := int64(-2); node <= 17; node++ {
			for liar := range nodes {
				c := bareCourt(rule(nodes, (nodes-1)/2, 100, 7, 3, 20))
				c.Lies[liar], c.Facts = nodes > 2, []impl.Fact{fact(node, 1, 0)}
				checkCourtOk(t, c, node >= 0 && node < nodes && !c.Lies[node])
			}
		}
	}
}

// Facts as many as may be, and one more, all of them alike; and a wrong one of them at every place.
func TestHowManyFacts(t *testing.T) {
	for _, count := range []int{0, 1, 2, 255, 256, 2999, 3000, 3001, 3002, 6000} {
		for _, some := range []impl.Fact{fact(0, 1, 0), fact(3, 1000, 50)} {
			checkCourtOk(t, changed(func(c *impl.Court) { c.Facts = slices.Repeat([]impl.Fact{some}, count) }), count < 3001)
		}
	}
	for _, place := range []int{0, 1, 1499, 2998, 2999} {
		for _, wrong := range []impl.Fact{fact(1, 1, 0), fact(5, 1, 0), fact(-1, 1, 0), fact(0, 0, 0), fact(0, 1001, 0), fact(0, 1, -1), fact(0, 1, 51)} {
			c := changed(func(c *impl.Court) { c.Facts = slices.Repeat([]impl.Fact{fact(0, 1, 0)}, maxFacts) })
			c.Facts[place] = wrong
			checkCourtOk(t, c, false)
		}
	}
}

// courtFaults each make plainCourt wrong in one way.
func courtFaults() []func(*impl.Court) {
	keys := fiveKeys()
	return []func(*impl.Court){
		func(c *impl.Court) { c.Rule.Nodes = 4 },
		func(c *impl.Court) { c.Rule.Liars = 1 },
		func(c *impl.Court) { c.Rule.Period = 27 },
		func(c *impl.Court) { c.Rule.Alpha = -1 },
		func(c *impl.Court) { c.Rule.Least = 0 },
		func(c *impl.Court) { c.Rule.Most = 2 },
		func(c *impl.Court) { c.Keys[3] = 0 },
		func(c *impl.Court) { c.Keys = c.Keys[:4] },
		func(c *impl.Court) { c.Lies = c.Lies[:4] },
		func(c *impl.Court) { c.Lies[0] = true },
		func(c *impl.Court) { c.Peers = c.Peers[:4] },
		func(c *impl.Court) { c.Peers[4].Off = maxOff + 1 },
		func(c *impl.Court) { c.Peers[1].Next = 0 },
		func(c *impl.Court) { c.Peers[1].Next = 10 },
		func(c *impl.Court) { c.Peers[4].Seals[4].Tag++ },
		func(c *impl.Court) { c.Peers[3].Seals = signedBy(keys, 3, 1, 0) },
		func(c *impl.Court) { c.Parcels[2].Due = 50 },
		func(c *impl.Court) { c.Parcels[2].To = 4 },
		func(c *impl.Court) { c.Parcels[2].Seals = make([]impl.Seal, 1) },
		func(c *impl.Court) { c.Now = -1 },
		func(c *impl.Court) { c.Made = c.Made[1:]; c.Made[0], c.Made[1] = c.Made[1], c.Made[0] },
		func(c *impl.Court) { c.Facts[3].Node = 1 },
		func(c *impl.Court) { c.Facts[3].Round = 0 },
		func(c *impl.Court) { c.Facts[3].At = 51 },
	}
}

// Of a court that is wrong in one way, or in two, no clock shows anything, and nobody is honest.
func TestNothingIsToldOfWrongCourts(t *testing.T) {
	for _, fault := range courtFaults() {
		checkCourtOk(t, changed(fault), false)
		for _, other := range courtFaults() {
			c := changed(other)
			// The first fault may take away what the second one is about.
			if len(c.Keys) == 5 && len(c.Lies) == 5 && len(c.Peers) == 5 && len(c.Peers[3].Seals) == 0 {
				fault(&c)
			}
			checkCourtOk(t, c, false)
		}
	}
}

// What a clock shows is asked of each node, of those that lie, too, and of none beside them.
func TestReadingOfEachNode(t *testing.T) {
	c := plainCourt()
	for node, want := range []int64{55, 43, 110, 50, -950} {
		if got, is := impl.ReadingOf(c, int64(node)); got != want || !is {
			t.Errorf("the clock of %d shows %d, %v, want %d", node, got, is, want)
		}
	}
	for _, node := range []int64{-1, -2, 5, 6, 16, math.MaxInt64, math.MinInt64, 1 << 32, 1<<32 + 1} {
		if got, is := impl.ReadingOf(c, node); got != 0 || is {
			t.Errorf("the clock of %d shows %d, %v, but there is none", node, got, is)
		}
	}
	for nodes := int64(1); nodes <= 16; nodes++ {
		c := bareCourt(rule(nodes, (nodes-1)/2, 100, 7, 3, 20))
		c.Now = 1000 * nodes
		for node := range c.Peers {
			c.Peers[node].Off, c.Lies[node] = int64(node*node), int64(node) < c.Rule.Liars
		}
		for node := range nodes {
			if got, is := impl.ReadingOf(c, node); got != 1000*nodes+node*node || !is {
				t.Errorf("of %d the clock of %d shows %d, %v", nodes, node, got, is)
			}
		}
		checkCourt(t, c)
	}
}

func TestHonestOfEveryCount(t *testing.T) {
	for nodes := int64(1); nodes <= 9; nodes++ {
		for set := range 1 << nodes {
			c := bareCourt(rule(nodes, (nodes-1)/2, 100, 7, 3, 20))
			c.Lies = liarsOf(nodes, set)
			want := []int64{}
			for node := nodes - 1; node >= 0 && bitsIn(set) <= c.Rule.Liars; node-- {
				if set>>node&1 == 0 {
					want = slices.Insert(want, 0, node)
				}
			}
			if got := impl.HonestIn(c); !slices.Equal(got, want) {
				t.Fatalf("of %v %v are honest, want %v", c.Lies, got, want)
			}
		}
	}
	for _, liars := range []int{0, 1, 6, 7} {
		c := bareCourt(rule(16, 7, 100, 7, 3, 20))
		for i := range liars {
			c.Lies[2*i+1] = true
		}
		if got := impl.HonestIn(c); len(got) != 16-liars || !slices.IsSorted(got) {
			t.Errorf("with %d liars %v are honest", liars, got)
		}
	}
}

func TestOrdinaryNewCourts(t *testing.T) {
	checkNewCourtIs(t, plainRule(), fiveKeys(), []int64{5, -7, 60, 0, -1000}, []bool{false, true, false, false, true}, true)
	checkNewCourtIs(t, rule(3, 1, 10, 2, 1, 3), []int64{5, 6, 7}, []int64{0, 4, 0}, []bool{false, false, true}, true)
	checkNewCourtIs(t, rule(1, 0, 2, 0, 1, 1), []int64{1}, []int64{9}, []bool{false}, true)
	checkNewCourtIs(t, rule(1, 0, 2, 0, 1, 1), []int64{1}, []int64{9}, []bool{true}, false)
	checkNewCourtIs(t, rule(3, 1, 10, 2, 1, 3), []int64{5, 6, 7}, []int64{0, 4, 0}, []bool{false, true, true}, false)
	checkNewCourtIs(t, rule(3, 1, 5, 2, 1, 3), []int64{5, 6, 7}, []int64{0, 4, 0}, []bool{false, false, true}, false)
	checkNewCourtIs(t, rule(3, 1, 10, 2, 1, 3), []int64{5, 0, 7}, []int64{0, 4, 0}, []bool{false, false, true}, false)
	checkNewCourtIs(t, rule(3, 1, 10, 2, 1, 3), []int64{5, 6}, []int64{0, 4, 0}, []bool{false, false, true}, false)
	checkNewCourtIs(t, rule(3, 1, 10, 2, 1, 3), []int64{5, 6, 7}, []int64{0, 4}, []bool{false, false, true}, false)
	checkNewCourtIs(t, rule(3, 1, 10, 2, 1, 3), []int64{5, 6, 7}, []int64{0, 4, 0}, []bool{false, false}, false)
	checkNewCourtIs(t, rule(3, 1, 10, 2, 1, 3), []int64{5, 6, 7}, []int64{0, 4, maxOff + 1}, []bool{false, false, true}, false)
	checkNewCourtIs(t, impl.Rule{}, nil, nil, nil, false)
	checkNewCourtIs(t, impl.Rule{}, []int64{}, []int64{}, []bool{}, false)
	checkNewCourtIs(t, plainRule(), nil, nil, nil, false)
}

// P12 at its limits: each count of nodes, with as many liars as may be and one more, and each off and key at its edges.
func TestNewCourtsAtTheLimits(t *testing.T) {
	for nodes := int64(1); nodes <= 16; nodes++ {
		for liars := int64(0); liars <= (nodes-1)/2; liars++ {
			for _, r := range []impl.Rule{rule(nodes, liars, 2, 0, 1, 1), rule(nodes, liars, maxRulePeriod, 98999, 1000, 1000), rule(nodes, liars, maxRulePeriod, 0, 1, 1000)} {
				most, beyond := liarsOf(nodes, 1<<liars-1), liarsOf(nodes, 1<<(liars+1)-1)
				for _, off := range edgesWithin(-maxOff, maxOff) {
					offs := slices.Repeat([]int64{0}, int(nodes))
					offs[off.n&15%nodes] = off.n
					checkNewCourtIs(t, r, keysAll(int(nodes), maxKey), offs, most, off.ok)
					checkNewCourtIs(t, r, keysAll(int(nodes), 1), offs, liarsOf(nodes, 0), off.ok)
					checkNewCourtIs(t, r, keysAll(int(nodes), 1), offs, beyond, false)
				}
				for _, key := range aroundKeys() {
					keys := keysAll(int(nodes), 9)
					keys[nodes-1] = key.n
					checkNewCourtIs(t, r, keys, slices.Repeat([]int64{maxOff}, int(nodes)), most, key.want)
				}
			}
		}
	}
	checkNewCourtIs(t, rule(17, 2, 100, 7, 3, 20), keysAll(17, 7), make([]int64, 17), make([]bool, 17), false)
	checkNewCourtIs(t, rule(0, 0, 100, 7, 3, 20), keysAll(1, 7), make([]int64, 1), make([]bool, 1), false)
}

// P12 of lists of all sizes.
func TestNewCourtsOfAllSizes(t *testing.T) {
	for keys := range 7 {
		for offs := range 7 {
			for liars := range 7 {
				for nodes := int64(0); nodes <= 6; nodes++ {
					right := nodes > 0 && keys == int(nodes) && offs == int(nodes) && liars == int(nodes)
					checkNewCourtIs(t, rule(nodes, 0, 100, 7, 3, 20), keysAll(keys, 7), upTo(offs), make([]bool, liars), right)
				}
			}
		}
	}
}

// rule is a right one, often with just as many nodes, and just as long a Period, as must be.
func (p *picker) rule() impl.Rule {
	liars := p.from(0, 7)
	nodes := max(p.from(1, 16), 2*liars+1)
	least := p.from(1, []int64{3, maxDelay}[p.from(0, 1)])
	most := p.from(least, min(maxDelay, least+[]int64{0, 5, maxDelay}[p.from(0, 2)]))
	alpha := p.from(0, []int64{0, 9, maxRulePeriod - most - 1}[p.from(0, 2)])
	period := p.from(alpha+most+1, []int64{alpha + most + 1, maxRulePeriod}[p.from(0, 1)])
	return rule(nodes, liars, period, alpha, least, most)
}

// liars are at most as many as may be.
func (p *picker) liars(r impl.Rule) []bool {
	list := make([]bool, r.Nodes)
	for range p.from(0, r.Liars) {
		list[p.from(0, r.Nodes-1)] = true
	}
	return list
}

func (p *picker) offs(count int) []int64 {
	list := make([]int64, count)
	for i := range list {
		list[i] = p.around([]int64{0, 5, 1000, maxOff}[p.from(0, 3)])
	}
	return list
}

// keysFor are right keys, as many as asked for.
func (p *picker) keysFor(nodes int64) []int64 {
	keys := make([]int64, nodes)
	for i := range keys {
		keys[i] = p.key()
	}
	return keys
}

// P12, in its own words, for right arguments of all kinds, and for such as are spoiled in one way.
func TestNewCourtsOfAllKinds(t *testing.T) {
	p := picker{seed: 1201}
	right, wrong := 0, 0
	for range 3000 {
		r := p.rule()
		keys, offs, liars := p.keysFor(r.Nodes), p.offs(int(r.Nodes)), p.liars(r)
		checkNewCourtIs(t, r, keys, offs, liars, true)
		switch at := p.from(0, r.Nodes-1); p.from(0, 5) {
		case 0:
			*ruleNumbers(&r)[p.from(0, 5)] += p.from(-2, 2)
		case 1:
			*ruleNumbers(&r)[p.from(0, 5)] = numbersFrom(p.seed, 1)[0]
		case 2:
			keys[at] = numbersFrom(p.seed, 1)[0]
		case 3:
			offs[at] = numbersFrom(p.seed, 1)[0]
		case 4:
			liars[at] = true
		case 5:
			size := int(p.from(0, r.Nodes+1))
			keys, offs, liars = sized(keys, int(r.Nodes)), sized(offs, size), sized(liars, []int{size, int(r.Nodes)}[p.from(0, 1)])
		}
		if checkNewCourt(t, r, keys, offs, liars) {
			right++
		} else {
			wrong++
		}
	}
	if right < 300 || wrong < 300 {
		t.Errorf("%d were right, %d wrong", right, wrong)
	}
}

// The furthest numbers as numbers of the rule, as keys and as offs: one alone, two, and all of them.
func TestNewCourtsOfFurthestNumbers(t *testing.T) {
	for _, a := range farEdges() {
		r, all := plainRule(), rule(a.n, a.n, a.n, a.n, a.n, a.n)
		checkRule(t, all, false)
		checkNewCourtIs(t, all, keysAll(5, a.n), slices.Repeat([]int64{a.n}, 5), make([]bool, 5), false)
		for which := range 6 {
			r := r
			*ruleNumbers(&r)[which] = a.n
			checkNewCourtIs(t, r, fiveKeys(), make([]int64, 5), make([]bool, 5), false)
			for _, b := range farEdges() {
				for other := range 6 {
					r := r
					*ruleNumbers(&r)[other] = b.n
					checkRule(t, r, false)
				}
			}
		}
		for place := range 5 {
			keys, offs := fiveKeys(), make([]int64, 5)
			keys[place], offs[place] = a.n, a.n
			checkNewCourtIs(t, r, keys, make([]int64, 5), make([]bool, 5), false)
			checkNewCourtIs(t, r, fiveKeys(), offs, make([]bool, 5), a.n >= -maxOff && a.n <= maxOff)
			checkNewCourtIs(t, r, keys, offs, make([]bool, 5), false)
		}
	}
}

func sealNumbers(list []impl.Seal) []*int64 {
	numbers := []*int64{}
	for i := range list {
		numbers = append(numbers, &list[i].Round, &list[i].Node, &list[i].Tag)
	}
	return numbers
}

// courtNumbers are all the numbers of a court.
func courtNumbers(c *impl.Court) []*int64 {
	numbers := append(ruleNumbers(&c.Rule), &c.Now)
	for i := range c.Keys {
		numbers = append(numbers, &c.Keys[i])
	}
	for i := range c.Peers {
		numbers = append(numbers, &c.Peers[i].Off, &c.Peers[i].Next)
		numbers = append(numbers, sealNumbers(c.Peers[i].Seals)...)
	}
	for i := range c.Parcels {
		numbers = append(numbers, &c.Parcels[i].Due, &c.Parcels[i].To)
		numbers = append(numbers, sealNumbers(c.Parcels[i].Seals)...)
	}
	for i := range c.Facts {
		numbers = append(numbers, &c.Facts[i].Node, &c.Facts[i].Round, &c.Facts[i].At)
	}
	return append(numbers, sealNumbers(c.Made)...)
}

// The furthest numbers in every number of a court: one alone, one and one more, and all of them.
func TestCourtsOfFurthestNumbers(t *testing.T) {
	plain := plainCourt()
	count := len(courtNumbers(&plain))
	for _, far := range []int64{math.MinInt64, math.MinInt64 + 1, -1, 0, 1, math.MaxInt64 - 1, math.MaxInt64} {
		all := cloneCourt(plain)
		for which, place := range courtNumbers(&all) {
			*place = far
			c := cloneCourt(plain)
			*courtNumbers(&c)[which] = far
			checkCourt(t, c)
			for other := range count {
				for _, n := range []int64{math.MinInt64, math.MaxInt64} {
					held := *courtNumbers(&c)[other]
					*courtNumbers(&c)[other] = n
					if got := impl.CourtOk(c); got != courtWant(c) {
						t.Fatalf("CourtOk(%+v) = %v", c, got)
					}
					*courtNumbers(&c)[other] = held
				}
			}
		}
		checkCourtOk(t, all, false)
	}
}

// Each number of a court one more and one less, and at some others near by.
func TestCourtsOfNearNumbers(t *testing.T) {
	plain := plainCourt()
	right := 0
	for which := range courtNumbers(&plain) {
		for by := int64(-60); by <= 60; by++ {
			c := cloneCourt(plain)
			*courtNumbers(&c)[which] += by
			checkCourt(t, c)
			if courtWant(c) {
				right++
			}
		}
	}
	if right < 1000 {
		t.Errorf("just %d of them were right", right)
	}
}

// rightSeals are of some rounds from first on, as they come.
func (p *picker) rightSeals(keys []int64, first int64, last int64, most int64) []impl.Seal {
	list := make([]impl.Seal, p.from(0, most))
	for i := range list {
		list[i] = signed(keys, p.from(first, last), p.from(0, int64(len(keys))-1))
	}
	return list
}

// court is a right one, of any size.
func (p *picker) court() impl.Court {
	r := p.rule()
	c := impl.Court{Rule: r, Keys: p.keysFor(r.Nodes), Lies: p.liars(r), Now: []int64{0, 1, maxNow, p.from(0, maxNow)}[p.from(0, 3)]}
	honest := []int64{}
	for node, off := range p.offs(int(r.Nodes)) {
		next := []int64{1, 2, 998, 999, 1000, p.from(1, maxRounds)}[p.from(0, 5)]
		kept := mergedWant(c.Keys, p.rightSeals(c.Keys, next, min(next+2, maxRounds), 20), nil)
		c.Peers = append(c.Peers, peer(off, next, p.from(0, 1) == 0, kept...))
		if !c.Lies[node] {
			honest = append(honest, int64(node))
		}
	}
	for range p.from(0, 9) {
		c.Parcels = append(c.Parcels, parcel(p.from(c.Now+1, c.Now+r.Most), honest[p.from(0, int64(len(honest))-1)], p.rightSeals(c.Keys, 1, maxRounds, maxSeals)...))
		c.Facts = append(c.Facts, fact(honest[p.from(0, int64(len(honest))-1)], p.from(1, maxRounds), p.from(0, c.Now)))
	}
	c.Made = mergedWant(c.Keys, p.rightSeals(c.Keys, 1, maxRounds, 40), nil)
	return c
}

// spoilCourt changes one thing, which may leave the court right.
func (p *picker) spoilCourt(c *impl.Court) {
	numbers := courtNumbers(c)
	number := numbers[p.from(0, int64(len(numbers))-1)]
	node := p.from(0, c.Rule.Nodes-1)
	switch p.from(0, 7) {
	case 0:
		*number += p.from(-1, 1)
	case 1:
		*number = numbersFrom(p.seed, 1)[0]
	case 2:
		c.Lies[node] = !c.Lies[node]
	case 3:
		c.Peers[node].Seals = p.shuffled(c.Peers[node].Seals)
	case 4:
		c.Peers[node].Seals = append(c.Peers[node].Seals, p.rightSeals(c.Keys, 1, maxRounds, 1)...)
	case 5:
		c.Made = append(c.Made, p.rightSeals(c.Keys, 1, maxRounds, 1)...)
	case 6:
		c.Peers = sized(c.Peers, int(node))
	case 7:
		c.Parcels = append(c.Parcels, parcel(p.from(c.Now, c.Now+c.Rule.Most+1), node, p.rightSeals(c.Keys, 1, maxRounds, maxSeals+2)...))
	}
}

func TestCourtsOfAllSizes(t *testing.T) {
	p := picker{seed: 1213}
	right, wrong := 0, 0
	for range 1200 {
		c := p.court()
		checkCourtOk(t, c, true)
		p.spoilCourt(&c)
		checkCourt(t, c)
		if courtWant(c) {
			right++
		} else {
			wrong++
		}
	}
	if right < 150 || wrong < 150 {
		t.Errorf("%d were right, %d wrong", right, wrong)
	}
}

// heldCourt is a court of which each list lies in a room of its own.
type heldCourt struct {
	court impl.Court
	rooms impl.Court
	seals [][]impl.Seal
}

func (h *heldCourt) holdSeals(list []impl.Seal) []impl.Seal {
	room, held := roomOfSeals(list)
	h.seals = append(h.seals, room)
	return held
}

func holdCourt(c impl.Court) *heldCourt {
	h, c := &heldCourt{}, cloneCourt(c)
	for i := range c.Peers {
		c.Peers[i].Seals = h.holdSeals(c.Peers[i].Seals)
	}
	for i := range c.Parcels {
		c.Parcels[i].Seals = h.holdSeals(c.Parcels[i].Seals)
	}
	c.Made = h.holdSeals(c.Made)
	h.rooms.Keys, c.Keys = inRoom(c.Keys)
	h.rooms.Lies, c.Lies = roomAround(c.Lies, true, false, true, false)
	h.rooms.Peers, c.Peers = roomAround(c.Peers, peer(8, 9, true), peer(7, 8, false), peer(6, 7, true))
	h.rooms.Parcels, c.Parcels = roomAround(c.Parcels, parcel(8, 9), parcel(7, 8), parcel(6, 7))
	h.rooms.Facts, c.Facts = roomAround(c.Facts, fact(7, 8, 9), fact(6, 7, 8), fact(5, 6, 7))
	h.court = c
	return h
}

func (h *heldCourt) same(other *heldCourt) bool {
	return sameCourt(h.court, other.court) && sameCourt(h.rooms, other.rooms) &&
		slices.EqualFunc(h.seals, other.seals, func(a []impl.Seal, b []impl.Seal) bool { return slices.Equal(a, b) })
}

// memoryCourts are right and wrong ones, with and without lists.
func memoryCourts() []impl.Court {
	list := []impl.Court{plainCourt(), bareCourt(plainRule()), bareCourt(rule(1, 0, 2, 0, 1, 1)), bareCourt(rule(16, 7, 100, 7, 3, 20)), {}}
	for _, fault := range courtFaults() {
		list = append(list, changed(fault))
	}
	p := picker{seed: 1217}
	for range 20 {
		list = append(list, p.court())
	}
	return list
}

// P19: no court is written into, nor the room around its lists, not even when the answer is filled up to the end of its own room; and asked
// again each function answers the same.
func TestCourtsStay(t *testing.T) {
	for _, c := range memoryCourts() {
		held, want := holdCourt(c), holdCourt(c)
		for range 2 {
			checkCourt(t, held.court)
			impl.RuleOk(held.court.Rule)
			fillRoom(impl.HonestIn(held.court))
			if !held.same(want) {
				t.Fatalf("%+v became %+v", want, held)
			}
		}
	}
}

// P19: who is honest is new memory each time, and what the court becomes later is not to be seen in it.
func TestHonestIsNewMemory(t *testing.T) {
	for _, c := range memoryCourts() {
		c := cloneCourt(c)
		first, second := impl.HonestIn(c), impl.HonestIn(c)
		want := slices.Clone(second)
		fillRoom(first)
		for i := range c.Lies {
			c.Lies[i] = !c.Lies[i]
		}
		if !slices.Equal(second, want) {
			t.Fatalf("of %+v %v were honest, which became %v", c, want, second)
		}
	}
}

// newCourtArguments are such as make a court and such as make none.
func newCourtArguments() []impl.Court {
	list := []impl.Court{{}}
	for _, c := range []impl.Court{plainCourt(), bareCourt(rule(1, 0, 2, 0, 1, 1)), bareCourt(rule(16, 7, 100, 7, 3, 20))} {
		long, wrong, liars := cloneCourt(c), cloneCourt(c), cloneCourt(c)
		long.Keys = append(long.Keys, 7)
		wrong.Keys[0] = 0
		fillWith(liars.Lies, true)
		list = append(list, c, long, wrong, liars)
	}
	return list
}

// offsIn are the offs of a court's peers.
func offsIn(c impl.Court) []int64 {
	offs := []int64{}
	for _, p := range c.Peers {
		offs = append(offs, p.Off)
	}
	return offs
}

// fillCourt writes over all lists of a court, up to the end of their own rooms.
func fillCourt(c impl.Court) {
	for _, p := range c.Peers {
		fillWith(p.Seals, seal(12345, 12345, 12345))
	}
	for _, p := range c.Parcels {
		fillWith(p.Seals, seal(12345, 12345, 12345))
	}
	fillRoom(c.Keys)
	fillWith(c.Lies, true)
	fillWith(c.Peers, peer(12345, 12345, true))
	fillWith(c.Parcels, parcel(12345, 12345))
	fillWith(c.Made, seal(12345, 12345, 12345))
	fillWith(c.Facts, fact(12345, 12345, 12345))
}

// P19: what a court is made of stays, the room around it, too, when the court is filled up; and asked again it is the same.
func TestNewCourtsStay(t *testing.T) {
	for _, c := range newCourtArguments() {
		keysRoom, keys := inRoom(c.Keys)
		offsRoom, offs := inRoom(offsIn(c))
		liarsRoom, liars := roomAround(c.Lies, true, false, true, false)
		wantKeys, wantOffs, wantLiars := slices.Clone(keysRoom), slices.Clone(offsRoom), slices.Clone(liarsRoom)
		for range 2 {
			checkNewCourt(t, c.Rule, keys, offs, liars)
			got, _ := impl.NewCourt(c.Rule, keys, offs, liars)
			fillCourt(got)
			if !slices.Equal(keysRoom, wantKeys) || !slices.Equal(offsRoom, wantOffs) || !slices.Equal(liarsRoom, wantLiars) {
				t.Fatalf("%v, %v and %v became %v, %v and %v", wantKeys, wantOffs, wantLiars, keysRoom, offsRoom, liarsRoom)
			}
		}
	}
}

// P19: a new court is new memory each time: it shares none with what it was made of, nor with another one.
func TestNewCourtIsNewMemory(t *testing.T) {
	for _, c := range newCourtArguments() {
		keys, offs, liars := slices.Clone(c.Keys), offsIn(c), slices.Clone(c.Lies)
		want, _ := newCourtWant(c.Rule, slices.Clone(keys), offs, slices.Clone(liars))
		first, _ := impl.NewCourt(c.Rule, keys, offs, liars)
		second, _ := impl.NewCourt(c.Rule, keys, offs, liars)
		fillCourt(first)
		fillRoom(keys)
		fillRoom(offs)
		for i := range liars {
			liars[i] = !liars[i]
		}
		if !sameCourt(second, want) {
			t.Fatalf("the court %+v became %+v", want, second)
		}
	}
}

// P19: no two lists of a new court share memory, not even behind their ends: what is put behind one of them is in no other.
func TestListsOfNewCourtsAreApart(t *testing.T) {
	c, _ := impl.NewCourt(plainRule(), fiveKeys(), upTo(5), make([]bool, 5))
	for node := range c.Peers {
		c.Peers[node].Seals = append(c.Peers[node].Seals, seal(int64(node), 1, 1))
	}
	c.Made = append(c.Made, seal(77, 1, 1))
	for node, p := range c.Peers {
		if !slices.Equal(p.Seals, []impl.Seal{seal(int64(node), 1, 1)}) {
			t.Errorf("the Seals of %d became %v", node, p.Seals)
		}
	}
	for which := range 3 {
		one, _ := impl.NewCourt(plainRule(), fiveKeys(), upTo(5), make([]bool, 5))
		want := cloneCourt(one)
		switch which {
		case 0:
			fillRoom(one.Keys)
			copy(want.Keys, one.Keys)
		case 1:
			fillWith(one.Lies, true)
			copy(want.Lies, one.Lies)
		case 2:
			fillWith(one.Peers, peer(12345, 12345, true))
			copy(want.Peers, one.Peers)
		}
		if !sameCourt(one, want) {
			t.Errorf("list %d: %+v, want %+v", which, one, want)
		}
	}
}

// Nothing is kept from call to call: of a court that changed since, the answer is of what it is now.
func TestNoCourtIsKept(t *testing.T) {
	c := plainCourt()
	for range 3 {
		checkCourtIs(t, c, []int64{55, 43, 110, 50, -950}, 0, 2, 3)
		c.Peers[3].Off = 8
		checkCourtIs(t, c, []int64{55, 43, 110, 58, -950}, 0, 2, 3)
		c.Peers[3].Off = maxOff + 1
		checkCourtOk(t, c, false)
		c.Peers[3].Off = 0
		c.Lies[1] = false
		checkCourtIs(t, c, []int64{55, 43, 110, 50, -950}, 0, 1, 2, 3)
		c.Lies[1] = true
		c.Made[0].Tag++
		checkCourtOk(t, c, false)
		c.Made[0].Tag--
	}
}
