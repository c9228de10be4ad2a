package tests

import (
	"math"
	"math/big"
	"slices"
	"testing"

	"loop.example/g00708/impl"
)

const (
	maxDelays = 100
	maxRun    = 2000
)

// A reckoning ticks a court by its lists alone: what is due is looked for from the first Parcel on.
type reckoning struct {
	impl.Court
	delays []int64
	sent   int
}

// longer is by how much the next Parcel comes later than Least.
func (r *reckoning) longer() int64 {
	if len(r.delays) == 0 {
		return 0
	}
	delay, ways := big.NewInt(r.delays[r.sent%len(r.delays)]), big.NewInt(r.Rule.Most-r.Rule.Least+1)
	r.sent++
	// Mod is from 0 on, whatever the delay.
	return delay.Mod(delay, ways).Int64()
}

func (r *reckoning) send(from int, seals []impl.Seal) {
	for to := range r.Lies {
		if to != from && !r.Lies[to] {
			r.Parcels = append(r.Parcels, parcel(r.Now+r.Rule.Least+r.longer(), int64(to), slices.Clone(seals)...))
		}
	}
}

// ofRounds are the seals of three rounds alone.
func ofRounds(list []impl.Seal, first int64) []impl.Seal {
	kept := []impl.Seal{}
	for _, s := range list {
		if s.Round == first || s.Round == first+1 || s.Round == first+2 {
			kept = append(kept, s)
		}
	}
	return kept
}

func (r *reckoning) take(node int, seals []impl.Seal) {
	p := &r.Peers[node]
	p.Seals = ofRounds(mergedWant(r.Keys, p.Seals, seals), p.Next)
	for {
		round := bestWant(r.Keys, r.Rule.Liars, p.Seals, p.Next)
		if round == 0 {
			return
		}
		r.Facts = append(r.Facts, fact(int64(node), round, r.Now))
		proof := slices.DeleteFunc(slices.Clone(p.Seals), func(s impl.Seal) bool { return s.Round != round })
		r.send(node, proof[:r.Rule.Liars+1])
		*p = peer(round*r.Rule.Period+r.Rule.Alpha-r.Now, round+1, false, ofRounds(p.Seals, round+1)...)
	}
}

func (r *reckoning) sign(node int) {
	p := &r.Peers[node]
	if !p.Signed && r.Now+p.Off-p.Next*r.Rule.Period >= 0 {
		p.Signed = true
		s := signed(r.Keys, p.Next, int64(node))
		r.Made = mergedWant(r.Keys, r.Made, []impl.Seal{s})
		r.send(node, []impl.Seal{s})
		r.take(node, []impl.Seal{s})
	}
}

func tickWant(c impl.Court, delays []int64) (impl.Court, bool) {
	if !courtWant(c) {
		return impl.Court{}, false
	}
	r := reckoning{Court: cloneCourt(c), delays: delays}
	r.Now, r.Parcels = c.Now+1, nil
	for _, p := range c.Parcels {
		if p.Due != r.Now {
			r.Parcels = append(r.Parcels, p)
		}
	}
	for _, p := range c.Parcels {
		if p.Due == r.Now {
			r.take(int(p.To), p.Seals)
		}
	}
	for node := range r.Lies {
		if !r.Lies[node] {
			r.sign(node)
		}
	}
	if len(delays) >= maxDelays+1 || !courtWant(r.Court) {
		return c, false
	}
	return r.Court, true
}

func runWant(c impl.Court, ticks int64, delays []int64) (impl.Court, int64) {
	if !courtWant(c) {
		return impl.Court{}, -1
	}
	if ticks <= -1 || ticks >= maxRun+1 {
		return c, -1
	}
	for done := range ticks {
		next, is := tickWant(c, delays)
		if !is {
			return c, done
		}
		c = next
	}
	return c, ticks
}

func lieWant(c impl.Court, to int64, seals []impl.Seal, delay int64) (impl.Court, bool) {
	if !courtWant(c) {
		return impl.Court{}, false
	}
	for _, s := range seals {
		if right, is := sealWant(c.Keys, s.Round, s.Node); !is || s != right || !c.Lies[s.Node] && !slices.Contains(c.Made, s) {
			return c, false
		}
	}
	if !slices.Contains(c.Lies, true) || delay <= c.Rule.Least-1 || delay >= c.Rule.Most+1 {
		return c, false
	}
	lied := cloneCourt(c)
	lied.Parcels = append(lied.Parcels, parcel(c.Now+delay, to, slices.Clone(seals)...))
	if !courtWant(lied) {
		return c, false
	}
	return lied, true
}

// checkTick also holds a run of one tick against the reckoning.
func checkTick(t *testing.T, c impl.Court, delays []int64) (impl.Court, bool) {
	t.Helper()
	want, wantIs := tickWant(c, delays)
	got, is := impl.Ticked(c, delays)
	if is != wantIs || !sameCourt(got, want) {
		t.Fatalf("Ticked(%+v, %v) = %+v, %v, want %+v, %v", c, delays, got, is, want, wantIs)
	}
	wantDone := int64(-1)
	if wantIs {
		wantDone = 1
	} else if courtWant(c) {
		wantDone = 0
	}
	if ran, done := impl.RanFor(c, 1, delays); done != wantDone || !sameCourt(ran, want) {
		t.Fatalf("RanFor(%+v, 1, %v) = %+v, %d, want %+v, %d", c, delays, ran, done, want, wantDone)
	}
	return got, is
}

// checkTickIs also says, beside the reckoning, what the court must be then.
func checkTickIs(t *testing.T, c impl.Court, delays []int64, want impl.Court) {
	t.Helper()
	if got, is := checkTick(t, c, delays); !is || !sameCourt(got, want) {
		t.Fatalf("Ticked(%+v, %v) = %+v, %v, want %+v", c, delays, got, is, want)
	}
	if !impl.CourtOk(want) {
		t.Fatalf("%+v is not right", want)
	}
}

// checkRefused says that there is no such tick, and that the court stays as it is.
func checkRefused(t *testing.T, c impl.Court, delays []int64) {
	t.Helper()
	if got, is := checkTick(t, c, delays); is || !sameCourt(got, c) || !impl.CourtOk(c) {
		t.Fatalf("Ticked(%+v, %v) = %+v, %v", c, delays, got, is)
	}
}

func checkRun(t *testing.T, c impl.Court, ticks int64, delays []int64) impl.Court {
	t.Helper()
	want, wantDone := runWant(c, ticks, delays)
	got, done := impl.RanFor(c, ticks, delays)
	if done != wantDone || !sameCourt(got, want) {
		t.Fatalf("RanFor(%+v, %d, %v) = %+v, %d, want %+v, %d", c, ticks, delays, got, done, want, wantDone)
	}
	return got
}

// checkRunIs also says how many ticks were done.
func checkRunIs(t *testing.T, c impl.Court, ticks int64, delays []int64, done int64) impl.Court {
	t.Helper()
	if _, got := impl.RanFor(c, ticks, delays); got != done {
		t.Fatalf("RanFor(%+v, %d, %v) says %d, want %d", c, ticks, delays, got, done)
	}
	return checkRun(t, c, ticks, delays)
}

func checkLie(t *testing.T, c impl.Court, to int64, seals []impl.Seal, delay int64) (impl.Court, bool) {
	t.Helper()
	want, wantIs := lieWant(c, to, seals, delay)
	got, is := impl.LiedTo(c, to, seals, delay)
	if is != wantIs || !sameCourt(got, want) {
		t.Fatalf("LiedTo(%+v, %d, %v, %d) = %+v, %v, want %+v, %v", c, to, seals, delay, got, is, want, wantIs)
	}
	return got, is
}

// checkLieIs also says whether it can be told.
func checkLieIs(t *testing.T, c impl.Court, to int64, seals []impl.Seal, delay int64, want bool) impl.Court {
	t.Helper()
	got, is := checkLie(t, c, to, seals, delay)
	if is != want {
		t.Fatalf("LiedTo(%+v, %d, %v, %d) says %v", c, to, seals, delay, is)
	}
	return got
}

// stillCourt has plainCourt's rule, keys and liars. All wait for round 3, and no clock comes near it.
func stillCourt(parcels ...impl.Parcel) impl.Court {
	return impl.Court{
		Rule:    plainRule(),
		Keys:    fiveKeys(),
		Lies:    []bool{false, true, false, false, true},
		Peers:   slices.Repeat([]impl.Peer{peer(-1000, 3, false)}, 5),
		Parcels: parcels,
		Now:     50,
	}
}

// then is what the court becomes: one tick later, with these Parcels alone, and with one more change.
func then(c impl.Court, parcels []impl.Parcel, change func(*impl.Court)) impl.Court {
	next := cloneCourt(c)
	next.Now++
	next.Parcels = parcels
	change(&next)
	return next
}

func asItIs(*impl.Court) {}

func TestTickLimits(t *testing.T) {
	if impl.MaxDelays != maxDelays || impl.MaxRun != maxRun {
		t.Error(impl.MaxDelays, impl.MaxRun)
	}
}

// A court of three nodes of which none lies, tick by tick, worked out by hand. Node 2 is the first to sign, and sends to 0 with the delay 2, to
// 1 with the delay 0; by its seal and their own ones first node 1 and then the others come to round 1.
func TestOrdinaryTicks(t *testing.T) {
	keys, delays := []int64{5, 6, 7}, []int64{2, 0}
	c, _ := impl.NewCourt(rule(3, 1, 10, 2, 1, 3), keys, []int64{0, 1, 5}, make([]bool, 3))
	zero, one, two := signed(keys, 1, 0), signed(keys, 1, 1), signed(keys, 1, 2)
	wants := map[int64]func(*impl.Court){
		5: func(c *impl.Court) {
			c.Peers[2] = peer(5, 1, true, two)
			c.Made = []impl.Seal{two}
			c.Parcels = []impl.Parcel{parcel(8, 0, two), parcel(6, 1, two)}
		},
		6: func(c *impl.Court) {
			c.Peers[1] = peer(1, 1, false, two)
			c.Parcels = []impl.Parcel{parcel(8, 0, two)}
		},
		8: func(c *impl.Court) {
			c.Peers[0] = peer(0, 1, false, two)
			c.Parcels = nil
		},
		9: func(c *impl.Court) {
			c.Peers[1] = peer(3, 2, false)
			c.Made = []impl.Seal{one, two}
			c.Parcels = []impl.Parcel{parcel(12, 0, one), parcel(10, 2, one), parcel(12, 0, one, two), parcel(10, 2, one, two)}
			c.Facts = []impl.Fact{fact(1, 1, 9)}
		},
		10: func(c *impl.Court) {
			c.Peers[0], c.Peers[2] = peer(2, 2, false), peer(2, 2, false)
			c.Made = []impl.Seal{zero, one, two}
			c.Parcels = []impl.Parcel{
				parcel(12, 0, one), parcel(12, 0, one, two), parcel(13, 0, one, two), parcel(11, 1, one, two),
				parcel(13, 1, zero), parcel(11, 2, zero), parcel(13, 1, zero, two), parcel(11, 2, zero, two),
			}
			c.Facts = append(c.Facts, fact(2, 1, 10), fact(0, 1, 10))
		},
		11: func(c *impl.Court) {
			c.Parcels = []impl.Parcel{parcel(12, 0, one), parcel(12, 0, one, two), parcel(13, 0, one, two), parcel(13, 1, zero), parcel(13, 1, zero, two)}
		},
		12: func(c *impl.Court) { c.Parcels = c.Parcels[2:] },
		13: func(c *impl.Court) { c.Parcels = nil },
	}
	for now := int64(1); now <= 16; now++ {
		want := cloneCourt(c)
		want.Now = now
		if change := wants[now]; change != nil {
			change(&want)
		}
		checkTickIs(t, c, delays, want)
		c = want
	}
	// Clock 1 shows 19 at 16, the others 18.
	for node, want := range []int64{18, 19, 18} {
		if got, is := impl.ReadingOf(c, int64(node)); got != want || !is {
			t.Errorf("clock %d shows %d, %v", node, got, is)
		}
	}
}

// A node that is alone signs and accepts at once, each time its clock comes to the next round, and sends nothing.
func TestOneNodeAlone(t *testing.T) {
	c, _ := impl.NewCourt(rule(1, 0, 10, 3, 2, 6), []int64{9}, []int64{-5}, []bool{false})
	c = checkRunIs(t, c, 14, []int64{4}, 14)
	if len(c.Made) != 0 || len(c.Facts) != 0 || c.Now != 14 {
		t.Fatalf("%+v", c)
	}
	// At 15 it shows 10, which is set to 13; it shows 20 seven ticks later.
	for round := int64(1); round <= 12; round++ {
		want := cloneCourt(c)
		want.Now = 15 + 7*(round-1)
		want.Peers[0] = peer(10*round+3-want.Now, round+1, false)
		want.Made = append(want.Made, signed(c.Keys, round, 0))
		want.Facts = append(want.Facts, fact(0, round, want.Now))
		checkTickIs(t, c, []int64{4}, want)
		c = checkRunIs(t, want, 6, nil, 6)
		want.Now += 6
		if !sameCourt(c, want) {
			t.Fatalf("%+v, want %+v", c, want)
		}
	}
}

// Several Parcels are due in one tick, for several nodes: node 0 comes to round 3 by two of them together, then to 4 by two more; node 2 comes to 4
// at once, so that the proof of round 3 is of no use to it. What isn't due stays as it was, ahead of what is sent.
func TestParcelsDueTogether(t *testing.T) {
	keys := fiveKeys()
	c := stillCourt(
		parcel(51, 0, signedBy(keys, 3, 1, 4)...),
		parcel(52, 0, signedBy(keys, 3, 3)...),
		parcel(51, 2, signedBy(keys, 4, 0, 1, 3)...),
		parcel(51, 0, signedBy(keys, 3, 3, 2)...),
		parcel(60, 3),
		parcel(51, 2, signedBy(keys, 3, 0, 1, 3)...),
		parcel(51, 0, signedBy(keys, 4, 1, 0)...),
		parcel(51, 3, signedBy(keys, 5, 2)...),
		parcel(52, 2, signedBy(keys, 9, 3)...),
		parcel(51, 0, signedBy(keys, 4, 4)...),
	)
	checkTickIs(t, c, nil, then(c, []impl.Parcel{
		parcel(52, 0, signedBy(keys, 3, 3)...),
		parcel(60, 3),
		parcel(52, 2, signedBy(keys, 9, 3)...),
		parcel(54, 0, signedBy(keys, 4, 0, 1, 3)...),
		parcel(54, 3, signedBy(keys, 4, 0, 1, 3)...),
		parcel(54, 2, signedBy(keys, 3, 1, 2, 3)...),
		parcel(54, 3, signedBy(keys, 3, 1, 2, 3)...),
		parcel(54, 2, signedBy(keys, 4, 0, 1, 4)...),
		parcel(54, 3, signedBy(keys, 4, 0, 1, 4)...),
	}, func(c *impl.Court) {
		c.Peers[0], c.Peers[2], c.Peers[3] = peer(356, 5, false), peer(356, 5, false), peer(-1000, 3, false, signedBy(keys, 5, 2)...)
		c.Facts = []impl.Fact{fact(2, 4, 51), fact(0, 3, 51), fact(0, 4, 51)}
	}))
}

// The same Parcels in another order: by the first one node 0 comes to round 4, and those of round 3 that wait for it are of no use any more.
func TestOrderOfParcelsMatters(t *testing.T) {
	keys := fiveKeys()
	third, fourth := parcel(51, 0, signedBy(keys, 3, 0, 1, 2)...), parcel(51, 0, signedBy(keys, 4, 0, 1, 2)...)
	sent := func(round int64) []impl.Parcel {
		return []impl.Parcel{parcel(54, 2, signedBy(keys, round, 0, 1, 2)...), parcel(54, 3, signedBy(keys, round, 0, 1, 2)...)}
	}
	come := func(facts ...impl.Fact) func(*impl.Court) {
		return func(c *impl.Court) { c.Peers[0], c.Facts = peer(356, 5, false), facts }
	}
	c := stillCourt(fourth, third)
	checkTickIs(t, c, nil, then(c, sent(4), come(fact(0, 4, 51))))
	c = stillCourt(third, fourth)
	checkTickIs(t, c, nil, then(c, slices.Concat(sent(3), sent(4)), come(fact(0, 3, 51), fact(0, 4, 51))))
}

// Many Parcels for one node, of many Dues, are each taken at its Due, and of one Due in the order in which they came.
func TestParcelsAreTakenAtTheirDue(t *testing.T) {
	keys := fiveKeys()
	list := []impl.Parcel{}
	for i := range int64(60) {
		list = append(list, parcel(51+(i*i+7*i)%20, []int64{0, 2, 3}[i%3], signedBy(keys, 3+i%4, i%5)...))
	}
	c := stillCourt(list...)
	for _, turned := range []bool{false, true} {
		if turned {
			slices.Reverse(c.Parcels)
		}
		now := cloneCourt(c)
		for tick := int64(1); tick <= 25; tick++ {
			now, _ = checkTick(t, now, nil)
			for _, p := range now.Parcels {
				if p.Due <= now.Now {
					t.Fatalf("at %d %v waits still", now.Now, p)
				}
			}
		}
		if len(now.Facts) == 0 {
			t.Error("nobody came to a round")
		}
	}
}

// Of what one Parcel brings the greatest round that is proved is accepted, and the rounds that it passes over are not; of the later ones the Seals stay.
func TestOneParcelOfSeveralRounds(t *testing.T) {
	keys := fiveKeys()
	for _, c := range []struct {
		seals    []impl.Seal
		accepted int64
		stay     []impl.Seal
	}{
		{slices.Concat(signedBy(keys, 3, 0, 1, 2), signedBy(keys, 4, 0, 1), signedBy(keys, 5, 4)), 3, slices.Concat(signedBy(keys, 4, 0, 1), signedBy(keys, 5, 4))},
		{slices.Concat(signedBy(keys, 3, 0, 1, 2), signedBy(keys, 4, 0, 1, 2), signedBy(keys, 5, 4, 0)), 4, signedBy(keys, 5, 0, 4)},
		{slices.Concat(signedBy(keys, 3, 0, 1, 2), signedBy(keys, 4, 0, 1), signedBy(keys, 5, 4, 0, 3)), 5, nil},
		{slices.Concat(signedBy(keys, 5, 0, 1, 2), signedBy(keys, 4, 0, 1, 2), signedBy(keys, 3, 4, 0, 3)), 5, nil},
		{slices.Concat(signedBy(keys, 4, 0, 1, 2), signedBy(keys, 3, 4, 0), signedBy(keys, 5, 0)), 4, signedBy(keys, 5, 0)},
		{slices.Concat(signedBy(keys, 3, 0, 0, 2, 2), signedBy(keys, 4, 0, 1), signedBy(keys, 5, 4, 4, 4)), 0, slices.Concat(signedBy(keys, 3, 0, 2), signedBy(keys, 4, 0, 1), signedBy(keys, 5, 4))},
	} {
		court := stillCourt(parcel(51, 2, c.seals...))
		want := then(court, nil, func(w *impl.Court) { w.Peers[2].Seals = c.stay })
		if c.accepted != 0 {
			proof := slices.DeleteFunc(mergedWant(keys, c.seals, nil), func(s impl.Seal) bool { return s.Round != c.accepted })[:3]
			want.Peers[2] = peer(100*c.accepted+7-51, c.accepted+1, false, c.stay...)
			want.Facts = []impl.Fact{fact(2, c.accepted, 51)}
			want.Parcels = []impl.Parcel{parcel(54, 0, proof...), parcel(54, 3, proof...)}
		}
		checkTickIs(t, court, nil, want)
	}
}

// Two rounds are accepted one behind the other, by two Parcels: the Seals of round 4 that came with the first one are kept for the second.
func TestTwoRoundsOneBehindTheOther(t *testing.T) {
	keys := fiveKeys()
	c := stillCourt(
		parcel(51, 3, slices.Concat(signedBy(keys, 5, 0), signedBy(keys, 4, 1, 3), signedBy(keys, 3, 0, 2, 4))...),
		parcel(51, 3, signedBy(keys, 4, 4)...),
		parcel(51, 3, signedBy(keys, 7, 4)...),
		parcel(51, 3, signedBy(keys, 8, 4)...),
	)
	checkTickIs(t, c, nil, then(c, []impl.Parcel{
		parcel(54, 0, signedBy(keys, 3, 0, 2, 4)...), parcel(54, 2, signedBy(keys, 3, 0, 2, 4)...),
		parcel(54, 0, signedBy(keys, 4, 1, 3, 4)...), parcel(54, 2, signedBy(keys, 4, 1, 3, 4)...),
	}, func(c *impl.Court) {
		c.Peers[3] = peer(356, 5, false, append(signedBy(keys, 5, 0), signedBy(keys, 7, 4)...)...)
		c.Facts = []impl.Fact{fact(3, 3, 51), fact(3, 4, 51)}
	}))
}

// What is proved by the Seals that a node has is accepted as soon as it takes something, be it an empty Parcel, but not before.
func TestSealsThatAreThereAlready(t *testing.T) {
	keys := fiveKeys()
	c := stillCourt(parcel(52, 2))
	c.Peers[2] = peer(-1000, 3, true, append(signedBy(keys, 3, 1, 2, 3), signedBy(keys, 4, 1)...)...)
	next := then(c, c.Parcels, asItIs)
	checkTickIs(t, c, nil, next)
	checkTickIs(t, next, nil, then(next, []impl.Parcel{parcel(55, 0, signedBy(keys, 3, 1, 2, 3)...), parcel(55, 3, signedBy(keys, 3, 1, 2, 3)...)}, func(c *impl.Court) {
		c.Peers[2] = peer(255, 4, false, signedBy(keys, 4, 1)...)
		c.Facts = []impl.Fact{fact(2, 3, 52)}
	}))
}

// Seals of rounds from one before Next to Next and 3: one alone, and as many as prove it.
func TestRoundsThatAreTaken(t *testing.T) {
	keys := fiveKeys()
	for next := int64(2); next <= 997; next += 199 {
		for round := next - 1; round <= next+3; round++ {
			useful := round >= next && round <= next+2
			c := stillCourt(parcel(51, 0, signed(keys, round, 2)))
			c.Peers[0].Next = next
			checkTickIs(t, c, nil, then(c, nil, func(c *impl.Court) {
				if useful {
					c.Peers[0].Seals = signedBy(keys, round, 2)
				}
			}))
			proof := signedBy(keys, round, 1, 2, 3)
			c.Parcels = []impl.Parcel{parcel(51, 0, proof...)}
			checkTickIs(t, c, nil, then(c, nil, func(c *impl.Court) {
				if useful {
					c.Peers[0] = peer(100*round+7-51, round+1, false)
					c.Facts = []impl.Fact{fact(0, round, 51)}
					c.Parcels = []impl.Parcel{parcel(54, 2, proof...), parcel(54, 3, proof...)}
				}
			}))
		}
	}
}

// A Seal of Next and 3 that comes with the proof of Next is not kept, though it would be, if it came in the next Parcel.
func TestSealsTooFarAhead(t *testing.T) {
	keys := fiveKeys()
	proof := signedBy(keys, 3, 0, 2, 3)
	sent := []impl.Parcel{parcel(54, 2, proof...), parcel(54, 3, proof...)}
	for _, together := range []bool{true, false} {
		c := stillCourt(parcel(51, 0, append(signedBy(keys, 6, 1, 4, 2), proof...)...))
		kept := []impl.Seal{}
		if !together {
			c.Parcels = []impl.Parcel{parcel(51, 0, proof...), parcel(51, 0, signedBy(keys, 6, 1, 4)...)}
			kept = signedBy(keys, 6, 1, 4)
		}
		checkTickIs(t, c, nil, then(c, sent, func(c *impl.Court) {
			c.Peers[0] = peer(256, 4, false, kept...)
			c.Facts = []impl.Fact{fact(0, 3, 51)}
		}))
	}
}

// The proof that is sent is of the first nodes, as many as Liars and 1, however many have signed, and whoever told it.
func TestProofThatIsSent(t *testing.T) {
	keys := upTo(16)
	for liars := int64(0); liars <= 7; liars++ {
		r := rule(16, liars, 100, 7, 3, 20)
		for _, signers := range [][]int64{{15, 14, 13, 12, 11, 10, 9, 8, 7, 6, 5, 4, 3, 2, 1, 0}, {3, 5, 7, 9, 11, 13, 15, 1}, {8, 2, 14, 2, 9, 4, 12, 6, 0, 10}} {
			for _, there := range []int64{0, 1, liars} {
				c := bareCourt(r)
				c.Keys = keys
				c.Peers[6] = peer(-9, 5, false, mergedWant(keys, signedBy(keys, 5, signers[:there]...), nil)...)
				c.Parcels = []impl.Parcel{parcel(1, 6, signedBy(keys, 5, signers[there:]...)...)}
				rising := slices.Sorted(slices.Values(signers))
				proof := signedBy(keys, 5, slices.Compact(rising)[:liars+1]...)
				got, _ := checkTick(t, c, nil)
				if len(got.Parcels) != 15 || len(got.Facts) != 1 {
					t.Fatalf("%+v", got)
				}
				for i, p := range got.Parcels {
					to := int64(i)
					if i >= 6 {
						to++
					}
					if !sameParcel(p, parcel(4, to, proof...)) {
						t.Fatalf("%+v was sent, want %v", p, proof)
					}
				}
			}
		}
	}
}

// Nodes that sign in the same tick do so rising, and what the one before has signed is of use only when it comes: node 2 has two Seals, and node 0
// signs ahead of it, yet it accepts by the Parcel, three ticks later.
func TestSigningInOneTick(t *testing.T) {
	keys := fiveKeys()
	c := stillCourt(parcel(70, 0))
	c.Peers[0], c.Peers[2], c.Peers[3] = peer(249, 3, false), peer(-1000, 3, false, signedBy(keys, 3, 1, 4)...), peer(249, 3, false)
	next := then(c, []impl.Parcel{
		parcel(70, 0),
		parcel(54, 2, signedBy(keys, 3, 0)...), parcel(54, 3, signedBy(keys, 3, 0)...),
		parcel(54, 0, signedBy(keys, 3, 3)...), parcel(54, 2, signedBy(keys, 3, 3)...),
	}, func(c *impl.Court) {
		c.Peers[0], c.Peers[3] = peer(249, 3, true, signedBy(keys, 3, 0)...), peer(249, 3, true, signedBy(keys, 3, 3)...)
		c.Made = signedBy(keys, 3, 0, 3)
	})
	checkTickIs(t, c, nil, next)
	for range 2 {
		c, next = next, then(next, next.Parcels, asItIs)
		checkTickIs(t, c, nil, next)
	}
	proof := signedBy(keys, 3, 0, 1, 4)
	checkTickIs(t, next, nil, then(next, []impl.Parcel{parcel(70, 0), parcel(57, 0, proof...), parcel(57, 3, proof...)}, func(c *impl.Court) {
		c.Peers[0].Seals = signedBy(keys, 3, 0, 3)
		c.Peers[2] = peer(253, 4, false)
		c.Peers[3].Seals = signedBy(keys, 3, 0, 3)
		c.Facts = []impl.Fact{fact(2, 3, 54)}
	}))
}

// Of two nodes that sign in the same tick and have what they need but for their own seal each accepts, and sends first its seal, then the proof.
func TestSigningAndAccepting(t *testing.T) {
	keys := fiveKeys()
	c := stillCourt()
	liars := signedBy(keys, 3, 1, 4)
	c.Peers[2], c.Peers[3] = peer(260, 3, false, liars...), peer(249, 3, false, append(slices.Clone(liars), signed(keys, 5, 1))...)
	checkTickIs(t, c, []int64{1, 2, 3}, then(c, []impl.Parcel{
		parcel(55, 0, signedBy(keys, 3, 2)...), parcel(56, 3, signedBy(keys, 3, 2)...),
		parcel(57, 0, signedBy(keys, 3, 1, 2, 4)...), parcel(55, 3, signedBy(keys, 3, 1, 2, 4)...),
		parcel(56, 0, signedBy(keys, 3, 3)...), parcel(57, 2, signedBy(keys, 3, 3)...),
		parcel(55, 0, signedBy(keys, 3, 1, 3, 4)...), parcel(56, 2, signedBy(keys, 3, 1, 3, 4)...),
	}, func(c *impl.Court) {
		c.Peers[2], c.Peers[3] = peer(256, 4, false), peer(256, 4, false, signed(keys, 5, 1))
		c.Made = signedBy(keys, 3, 2, 3)
		c.Facts = []impl.Fact{fact(2, 3, 51), fact(3, 3, 51)}
	}))
}

// Parcels go ahead of signing: who comes to round 3 by one has its clock set back, and does not sign, whatever it showed.
func TestParcelsGoAheadOfSigning(t *testing.T) {
	keys := fiveKeys()
	proof := signedBy(keys, 3, 1, 2, 4)
	c := stillCourt(parcel(51, 0, proof...))
	for _, off := range []int64{249, 250, 5000, maxOff} {
		c.Peers[0] = peer(off, 3, false)
		checkTickIs(t, c, nil, then(c, []impl.Parcel{parcel(54, 2, proof...), parcel(54, 3, proof...)}, func(c *impl.Court) {
			c.Peers[0] = peer(256, 4, false)
			c.Facts = []impl.Fact{fact(0, 3, 51)}
		}))
	}
}

// A clock at Next times Period less 1, at it and beyond; whoever has signed does not sign again, and whoever lies does not sign.
func TestWhenSigned(t *testing.T) {
	keys := fiveKeys()
	for _, next := range []int64{1, 2, 3, 500, 1000} {
		for _, short := range []int64{maxOff, 1000, 2, 1, 0, -1, -2, -99, -100, -101, -100000} {
			for _, node := range []int64{0, 1, 2, 3, 4} {
				c := stillCourt()
				off := max(-maxOff, 100*next-51-short)
				c.Peers[node] = peer(off, next, false)
				lies := node == 1 || node == 4
				if short > 0 || lies {
					checkTickIs(t, c, nil, then(c, nil, asItIs))
					continue
				}
				s := signed(keys, next, node)
				others := slices.DeleteFunc([]int64{0, 2, 3}, func(other int64) bool { return other == node })
				signedThen := then(c, []impl.Parcel{parcel(54, others[0], s), parcel(54, others[1], s)}, func(c *impl.Court) {
					c.Peers[node] = peer(off, next, true, s)
					c.Made = []impl.Seal{s}
				})
				checkTickIs(t, c, nil, signedThen)
				checkTickIs(t, signedThen, nil, then(signedThen, signedThen.Parcels, asItIs))
			}
		}
	}
}

// Made rises, whoever signs first, of whatever round; and a seal that stands there already is not put there again.
func TestMadeRises(t *testing.T) {
	keys := fiveKeys()
	for _, made := range [][]impl.Seal{nil, signedBy(keys, 3, 2), signedBy(keys, 7, 0), signedBy(keys, 1, 0, 4), signedByAll(keys, 1, 2, 3, 4, 5, 6, 7, 8), append(signedBy(keys, 3, 1, 4), signedBy(keys, 7, 1, 2)...)} {
		for _, nexts := range [][3]int64{{3, 3, 3}, {7, 3, 1}, {3, 7, 3}, {1000, 1, 500}, {2, 3, 4}, {1, 1, 8}} {
			c := stillCourt()
			c.Made = made
			want := slices.Clone(made)
			for i, node := range []int64{0, 2, 3} {
				c.Peers[node] = peer(maxOff, nexts[i], false)
				want = mergedWant(keys, want, signedBy(keys, nexts[i], node))
			}
			if got, is := checkTick(t, c, nil); !is || !slices.Equal(got.Made, want) || !impl.CourtOk(got) {
				t.Fatalf("of %+v %v is made, want %v", c, got.Made, want)
			}
		}
	}
}

// sentAt are the Dues of what is sent in the next tick.
func sentAt(t *testing.T, c impl.Court, delays []int64) []int64 {
	t.Helper()
	got, is := checkTick(t, c, delays)
	if !is {
		t.Fatalf("Ticked(%+v, %v) is refused", c, delays)
	}
	dues := []int64{}
	for _, p := range got.Parcels {
		dues = append(dues, p.Due)
	}
	return dues
}

// signingCourt has five nodes that do not lie, of which some sign in the next tick, 51; the others never do.
func signingCourt(least int64, most int64, signing ...int) impl.Court {
	c := bareCourt(rule(5, 2, 3000, 7, least, most))
	c.Now = 50
	for node := range c.Peers {
		c.Peers[node].Off = -maxOff
	}
	for _, node := range signing {
		c.Peers[node].Off = 3000
	}
	return c
}

// Each node that signs sends to four others: by how much these Parcels are later than 54.
func TestDelays(t *testing.T) {
	for _, c := range []struct {
		delays []int64
		later  []int64
	}{
		{nil, []int64{0, 0, 0, 0, 0, 0, 0, 0}},
		{[]int64{}, []int64{0, 0, 0, 0, 0, 0, 0, 0}},
		{[]int64{0}, []int64{0, 0, 0, 0, 0, 0, 0, 0}},
		{[]int64{5}, []int64{5, 5, 5, 5, 5, 5, 5, 5}},
		{[]int64{5, 6}, []int64{5, 6, 5, 6, 5, 6, 5, 6}},
		{[]int64{1, 2, 3}, []int64{1, 2, 3, 1, 2, 3, 1, 2}},
		{[]int64{1, 2, 3, 4, 5, 6, 7}, []int64{1, 2, 3, 4, 5, 6, 7, 1}},
		{[]int64{8, 7, 6, 5, 4, 3, 2, 1}, []int64{8, 7, 6, 5, 4, 3, 2, 1}},
		{[]int64{8, 7, 6, 5, 4, 3, 2, 1, 9, 10, 11}, []int64{8, 7, 6, 5, 4, 3, 2, 1}},
		{[]int64{16, 17, 18, 19, 35, 36, 37, 18000}, []int64{16, 17, 0, 1, 17, 0, 1, 0}},
		{[]int64{-1, -2, -17, -18, -19, -36, -37, -18001}, []int64{17, 16, 1, 0, 17, 0, 17, 17}},
		{[]int64{math.MinInt64, math.MinInt64 + 1, math.MaxInt64, math.MaxInt64 - 1, maxNs, -maxNs, 1 << 32, -1 << 32}, []int64{10, 11, 7, 6, 4, 14, 4, 14}},
	} {
		want := []int64{}
		for _, later := range c.later {
			want = append(want, 54+later)
		}
		if got := sentAt(t, signingCourt(3, 20, 1, 3), c.delays); !slices.Equal(got, want) {
			t.Errorf("with the delays %v what is sent is due at %v, want %v", c.delays, got, want)
		}
		if got := sentAt(t, signingCourt(3, 20, 0), c.delays); !slices.Equal(got, want[:4]) {
			t.Errorf("with the delays %v what one sends is due at %v, want %v", c.delays, got, want[:4])
		}
	}
}

// The delays begin anew with each tick, however many of them the tick before has had.
func TestDelaysBeginAnew(t *testing.T) {
	for _, delays := range [][]int64{{1, 2, 3, 4, 5, 6, 7}, {1, 2, 3}, {1, 2, 3, 4}, upTo(maxDelays)} {
		c := signingCourt(3, 20, 1)
		c.Peers[3].Off = 3000 - 52
		c.Peers[4].Off = 3000 - 53
		want := []int64{}
		for now := int64(51); now <= 53; now++ {
			for i := range 4 {
				want = append(want, now+3+delays[i%len(delays)]%18)
			}
		}
		dues := []int64{}
		for _, p := range checkRunIs(t, c, 3, delays, 3).Parcels {
			dues = append(dues, p.Due)
		}
		if !slices.Equal(dues, want) {
			t.Errorf("with the delays %v what is sent is due at %v, want %v", delays, dues, want)
		}
	}
}

// Where Least is Most all delays are as none; else they are taken modulo their difference and 1.
func TestDelaysOfEachRule(t *testing.T) {
	for _, least := range []int64{1, 2, 20, 999, 1000} {
		for _, most := range []int64{least, least + 1, least + 2, least + 7, 1000} {
			for delay := int64(-2010); delay <= 2010 && most <= 1000; delay += 67 {
				c := signingCourt(least, most, 2)
				dues := sentAt(t, c, []int64{delay})
				ways := most - least + 1
				for _, due := range dues {
					later := due - 51 - least
					if later < 0 || later >= ways || (delay-later)%ways != 0 || len(dues) != 4 {
						t.Fatalf("with the delay %d, from %d to %d, what is sent is due at %v", delay, least, most, dues)
					}
				}
			}
		}
	}
}

func TestHowManyDelays(t *testing.T) {
	for _, count := range []int{0, 1, 99, 100} {
		checkTickIs(t, stillCourt(), make([]int64, count), then(stillCourt(), nil, asItIs))
		checkRunIs(t, signingCourt(3, 20, 1, 3), 30, upTo(count), 30)
	}
	for _, count := range []int{101, 102, 200, 5000} {
		checkRefused(t, stillCourt(), make([]int64, count))
		checkRefused(t, signingCourt(3, 20, 1, 3), upTo(count))
		checkRunIs(t, signingCourt(3, 20, 1, 3), 30, upTo(count), 0)
		checkRunIs(t, signingCourt(3, 20, 1, 3), 0, upTo(count), 0)
		checkRunIs(t, signingCourt(3, 20, 1, 3), -1, upTo(count), -1)
		if got, is := impl.Ticked(impl.Court{}, upTo(count)); is || !sameCourt(got, impl.Court{}) {
			t.Errorf("the zero court with %d delays became %+v, %v", count, got, is)
		}
	}
}

// What is sent goes to all others that do not lie, rising, and to nobody else.
func TestWhoIsSentTo(t *testing.T) {
	for nodes := int64(1); nodes <= 7; nodes++ {
		for set := range 1 << nodes {
			if bitsIn(set) > (nodes-1)/2 {
				continue
			}
			c := bareCourt(rule(nodes, (nodes-1)/2, 100, 7, 3, 20))
			c.Lies = liarsOf(nodes, set)
			for from := range nodes {
				court := cloneCourt(c)
				court.Peers[from].Off = 99
				want := []int64{}
				for to := range nodes {
					if from != to && !c.Lies[from] && !c.Lies[to] {
						want = append(want, to)
					}
				}
				if c.Rule.Liars == 0 {
					// Its own seal is the proof, which it sends as well.
					want = slices.Concat(want, want)
				}
				got, is := checkTick(t, court, nil)
				to := []int64{}
				for _, p := range got.Parcels {
					to = append(to, p.To)
				}
				if !is || !slices.Equal(to, want) {
					t.Fatalf("%d of %+v sent to %v, want %v", from, court, to, want)
				}
			}
		}
	}
}

// Offs at the ends, and far ahead and behind: who is far ahead signs at once, but just once, until it comes to that round.
func TestOffsFarAhead(t *testing.T) {
	for _, off := range []int64{maxOff, maxOff - 1, 1000000, 500, -1, -20, -1000, -maxOff} {
		for _, liars := range []int64{0, 1, 2} {
			c, is := impl.NewCourt(rule(5, liars, 30, 4, 2, 9), fiveKeys(), []int64{off, off, 0, off, off}, make([]bool, 5))
			if !is {
				t.Fatal(off)
			}
			c = checkRun(t, c, 150, []int64{4, 0, 7})
			if off > 0 && len(c.Facts) < 20 {
				t.Errorf("with the off %d just %v was accepted", off, c.Facts)
			}
			if off == -maxOff && liars > 0 && len(c.Made) != 1 {
				t.Errorf("with the off %d %v was made", off, c.Made)
			}
		}
	}
}

func TestTickAtTheLastNow(t *testing.T) {
	c := stillCourt()
	c.Peers = slices.Repeat([]impl.Peer{peer(-maxOff, 3, false)}, 5)
	for _, now := range []int64{0, 1, maxNow - 2, maxNow - 1} {
		c.Now = now
		checkTickIs(t, c, nil, then(c, nil, asItIs))
	}
	c.Now = maxNow
	checkRefused(t, c, nil)
	for _, ticks := range []int64{0, 9, 10, 11, maxRun} {
		c.Now = maxNow - 10
		if got := checkRunIs(t, c, ticks, nil, min(ticks, 10)); got.Now != c.Now+min(ticks, 10) {
			t.Errorf("after %d ticks it is %d", ticks, got.Now)
		}
	}
}

// What is sent must find room behind what stays: what is due leaves room.
func TestParcelsAtTheirMost(t *testing.T) {
	for _, c := range []struct {
		stay int
		due  int
		is   bool
	}{{2995, 0, true}, {2996, 0, true}, {2997, 0, false}, {2998, 0, false}, {3000, 0, false}, {2996, 4, true}, {2997, 3, false}, {2999, 1, false}, {0, 3000, true}, {2990, 10, true}} {
		court := signingCourt(3, 20, 2)
		court.Parcels = slices.Concat(slices.Repeat([]impl.Parcel{parcel(60, 1)}, c.stay), slices.Repeat([]impl.Parcel{parcel(51, 4)}, c.due))
		if got, is := checkTick(t, court, nil); is != c.is || is && len(got.Parcels) != c.stay+4 {
			t.Errorf("with %d Parcels and %d that are due: %d, %v", c.stay, c.due, len(got.Parcels), is)
		}
	}
	// The first of ten ticks has no room.
	c := signingCourt(3, 20)
	c.Parcels = slices.Repeat([]impl.Parcel{parcel(60, 1)}, maxParcels)
	c.Peers[2].Off = 3000 - 55
	checkRunIs(t, c, 10, nil, 4)
}

// accepting has nodes that each accept round 3 in the next tick.
func accepting(nodes ...int64) impl.Court {
	c := stillCourt()
	for _, node := range nodes {
		c.Parcels = append(c.Parcels, parcel(51, node, signedBy(c.Keys, 3, 0, 1, 2)...))
	}
	return c
}

func TestFactsAtTheirMost(t *testing.T) {
	for _, facts := range []int{0, 2996, 2997, 2998, 2999, 3000} {
		for count := range 4 {
			c := accepting([]int64{0, 2, 3}[:count]...)
			c.Facts = slices.Repeat([]impl.Fact{fact(2, 1, 9)}, facts)
			got, is := checkTick(t, c, nil)
			if is != (facts+count < 3001) || is && len(got.Facts) != facts+count {
				t.Errorf("with %d Facts, of which %d are new: %d, %v", facts, count, len(got.Facts), is)
			}
		}
	}
}

// The last round that can be accepted is the last one but one, since there must be a Next.
func TestLastRounds(t *testing.T) {
	keys := fiveKeys()
	for next := int64(995); next <= 1000; next++ {
		for round := next; round <= min(next+2, 1000); round++ {
			c := stillCourt(parcel(51, 0, signedBy(keys, round, 0, 1, 2)...))
			c.Peers[0].Next = next
			if got, is := checkTick(t, c, nil); is != (round <= 999) || is && got.Peers[0].Next != round+1 {
				t.Errorf("who waits for %d came to %d: %+v, %v", next, round, got, is)
			}
		}
	}
	// The node signs the last round, but can't accept it alone.
	c := stillCourt()
	c.Peers[0] = peer(maxOff, 1000, false, signedBy(keys, 1000, 1)...)
	if got, is := checkTick(t, c, nil); !is || !slices.Equal(got.Made, signedBy(keys, 1000, 0)) {
		t.Errorf("%+v, %v", got, is)
	}
	c.Peers[0] = peer(maxOff, 1000, false, signedBy(keys, 1000, 1, 4)...)
	checkRefused(t, c, nil)
}

func TestHowManyTicks(t *testing.T) {
	c, _ := impl.NewCourt(rule(3, 1, 900, 100, 300, 400), []int64{5, 6, 7}, []int64{4, -9, 700}, []bool{false, false, true})
	for _, ticks := range []int64{0, 1, 2, 1000, 1999, 2000} {
		if got := checkRunIs(t, c, ticks, []int64{8, 90}, ticks); got.Now != ticks {
			t.Errorf("after %d ticks it is %d", ticks, got.Now)
		}
	}
	for _, ticks := range []int64{-1, -2, -2000, 2001, 2002, 4000, 100000, math.MaxInt64, math.MinInt64, 1 << 32, 1<<32 + 1, -1 << 32} {
		if got := checkRunIs(t, c, ticks, []int64{8, 90}, -1); !sameCourt(got, c) {
			t.Errorf("after %d ticks it is %+v", ticks, got)
		}
		if got, done := impl.RanFor(impl.Court{}, ticks, nil); done != -1 || !sameCourt(got, impl.Court{}) {
			t.Errorf("after %d ticks the zero court is %+v, %d", ticks, got, done)
		}
	}
}

// A run is its ticks one by one, in whatever parts it is done; and with no ticks it is the court itself.
func TestRunsInParts(t *testing.T) {
	c, _ := impl.NewCourt(rule(5, 2, 40, 10, 4, 15), fiveKeys(), []int64{0, 3, -8, 30, 700}, make([]bool, 5))
	delays := []int64{3, 9, -4, 12, 0, 8, 1}
	whole := checkRunIs(t, c, 400, delays, 400)
	for _, part := range []int64{1, 8, 50, 200} {
		got := c
		for range 400 / part {
			got, _ = impl.RanFor(got, part, delays)
		}
		if !sameCourt(got, whole) {
			t.Errorf("in parts of %d it becomes %+v, want %+v", part, got, whole)
		}
	}
	if got, done := impl.RanFor(whole, 0, delays); done != 0 || !sameCourt(got, whole) {
		t.Errorf("after no tick: %+v, %d", got, done)
	}
	if len(whole.Facts) < 40 {
		t.Errorf("just %v came about", whole.Facts)
	}
}

// The longest runs: of a node alone, up to the last round, which is refused; and of sixteen nodes, up to the Facts that find no room.
func TestRunsThatEndEarly(t *testing.T) {
	c, _ := impl.NewCourt(rule(1, 0, 2, 0, 1, 1), []int64{9}, []int64{0}, []bool{false})
	got, done := impl.RanFor(c, maxRun, nil)
	if done != 1999 || got.Now != 1999 || len(got.Facts) != 999 || got.Peers[0].Next != 1000 || !impl.CourtOk(got) {
		t.Errorf("%d ticks were done, to %d, with %d Facts", done, got.Now, len(got.Facts))
	}
	for i, f := range got.Facts {
		if f != fact(0, int64(i+1), int64(2*i+2)) {
			t.Fatalf("the Fact %d is %+v", i, f)
		}
	}
	checkRefused(t, got, nil)
	c, _ = impl.NewCourt(rule(16, 0, 2, 0, 1, 1), upTo(16), make([]int64, 16), make([]bool, 16))
	got, done = impl.RanFor(c, maxRun, nil)
	// Of round 187 just eight nodes and 2992 Facts would come to 3000.
	if done != 375 || len(got.Facts) != 2992 || got.Now != 375 || !impl.CourtOk(got) {
		t.Errorf("%d ticks were done, to %d, with %d Facts", done, got.Now, len(got.Facts))
	}
	checkRefused(t, got, nil)
}

// A run goes up to the tick that is refused, and leaves the court as it was ahead of it, though half of that tick could be done.
func TestRunsThatAreRefused(t *testing.T) {
	keys := fiveKeys()
	full := accepting(0, 2, 3)
	full.Facts = slices.Repeat([]impl.Fact{fact(2, 1, 9)}, maxFacts-2)
	last := stillCourt(parcel(51, 2, signedBy(keys, 3, 0, 1, 2)...), parcel(51, 0, signedBy(keys, 1000, 0, 1, 2)...))
	last.Peers[0].Next = 999
	for _, c := range []impl.Court{full, last} {
		for later := range int64(5) {
			later := later * 3
			c := cloneCourt(c)
			for i := range c.Parcels {
				c.Parcels[i].Due += later
			}
			got := checkRunIs(t, c, 100, []int64{5}, later)
			want := cloneCourt(c)
			want.Now += later
			if !sameCourt(got, want) {
				t.Errorf("%+v, want %+v", got, want)
			}
			checkRefused(t, got, []int64{5})
		}
	}
}

// Ordinary lies: each comes to one node alone, at Now and the delay, behind what is on its way already.
func TestOrdinaryLies(t *testing.T) {
	keys := fiveKeys()
	c := plainCourt()
	for _, lie := range []struct {
		to    int64
		seals []impl.Seal
		delay int64
	}{
		{0, signedBy(keys, 3, 1), 3},
		{2, append(signedBy(keys, 900, 4, 1, 4), signedBy(keys, 2, 4)...), 20},
		{3, append(signedBy(keys, 4, 2, 1), signedBy(keys, 1, 2, 0)...), 11},
		{3, nil, 11},
		{0, []impl.Seal{}, 20},
	} {
		want := cloneCourt(c)
		want.Parcels = append(want.Parcels, parcel(50+lie.delay, lie.to, lie.seals...))
		if got := checkLieIs(t, c, lie.to, lie.seals, lie.delay, true); !sameCourt(got, want) {
			t.Fatalf("%+v, want %+v", got, want)
		}
		c = want
	}
	c = checkRunIs(t, c, 25, []int64{4, 1}, 25)
	if len(c.Parcels) > 5 {
		t.Errorf("%+v still wait", c.Parcels)
	}
}

func TestWhoIsLiedTo(t *testing.T) {
	c := plainCourt()
	lie := signedBy(c.Keys, 3, 1)
	for to := int64(-3); to <= 20; to++ {
		checkLieIs(t, c, to, lie, 5, to == 0 || to == 2 || to == 3)
		checkLieIs(t, c, to, nil, 5, to == 0 || to == 2 || to == 3)
	}
	for _, to := range farEdges() {
		checkLieIs(t, c, to.n, lie, 5, false)
	}
	for liars := range int64(8) {
		c := bareCourt(rule(16, 7, 100, 7, 3, 20))
		for node := range liars {
			c.Lies[15-2*node] = true
		}
		for to := int64(-1); to <= 16; to++ {
			checkLieIs(t, c, to, nil, 5, liars > 0 && to >= 0 && to <= 15 && !c.Lies[to])
		}
	}
}

func TestDelayOfLies(t *testing.T) {
	for _, ends := range []impl.Span{span(3, 20), span(1, 1), span(20, 20), span(1, 92)} {
		c := plainCourt()
		c.Rule.Least, c.Rule.Most, c.Parcels = ends.Lo, ends.Hi, nil
		for _, delay := range edgesWithin(ends.Lo, ends.Hi) {
			checkLieIs(t, c, 3, signedBy(c.Keys, 3, 4), delay.n, delay.ok)
			checkLieIs(t, c, 3, nil, delay.n, delay.ok)
		}
	}
	// With these delays Now and the delay would come round.
	c := plainCourt()
	for _, delay := range []int64{math.MaxInt64, math.MaxInt64 - 49, math.MaxInt64 - 50, math.MinInt64, math.MinInt64 + 3, 0, -1, -47} {
		checkLieIs(t, c, 3, nil, delay, false)
	}
	c.Now, c.Parcels = maxNow, nil
	for _, delay := range edgesWithin(3, 20) {
		checkLieIs(t, c, 3, signedBy(c.Keys, 3, 4), delay.n, delay.ok)
	}
}

func TestHowManySealsAreLied(t *testing.T) {
	for _, count := range []int{0, 1, 47, 48, 49, 50, 96, 1000} {
		c := plainCourt()
		checkLieIs(t, c, 2, slices.Repeat(signedBy(c.Keys, 3, 1), count), 5, count < 49)
		checkLieIs(t, c, 2, slices.Repeat(signedBy(c.Keys, 4, 2), count), 5, count < 49)
		checkLieIs(t, c, 2, slices.Repeat(signedBy(c.Keys, 4, 0), count), 5, count == 0)
	}
}

// Of those that lie all seals can be told; of the others those alone that are made, each of them; and where nobody lies none.
func TestSealsThatCanBeTold(t *testing.T) {
	keys := fiveKeys()
	c := plainCourt()
	nobody := plainCourt()
	nobody.Lies = make([]bool, 5)
	for round := int64(1); round <= 9; round++ {
		for node := range int64(5) {
			s := signed(keys, round, node)
			can := node == 1 || node == 4 || slices.Contains(c.Made, s)
			checkLieIs(t, c, 3, []impl.Seal{s}, 5, can)
			checkLieIs(t, c, 3, append(signedBy(keys, 5, 4, 1), s), 5, can)
			checkLieIs(t, c, 3, append([]impl.Seal{s}, signedBy(keys, 5, 4, 1)...), 5, can)
			checkLieIs(t, nobody, 3, []impl.Seal{s}, 5, false)
			for _, wrong := range wrongSeals(s) {
				checkLieIs(t, c, 3, []impl.Seal{wrong}, 5, false)
				checkLieIs(t, c, 3, append(signedBy(keys, 5, 4, 1), wrong), 5, false)
			}
		}
	}
	checkLieIs(t, c, 3, c.Made, 5, true)
	checkLieIs(t, nobody, 3, c.Made, 5, false)
	checkLieIs(t, nobody, 3, nil, 5, false)
	checkLieIs(t, c, 3, signedBy(keys, 1000, 4), 5, true)
	checkLieIs(t, c, 3, []impl.Seal{seal(1001, 4, tagWant(55, 1001, 4))}, 5, false)
}

// A seal that has been made since can be told then, and only then.
func TestSealsToldOn(t *testing.T) {
	c, _ := impl.NewCourt(rule(3, 1, 10, 2, 1, 3), []int64{5, 6, 7}, []int64{5, -100, 0}, []bool{false, false, true})
	for range 9 {
		told := c.Now >= 5
		checkLieIs(t, c, 1, signedBy(c.Keys, 1, 0), 2, told)
		checkLieIs(t, c, 1, signedBy(c.Keys, 1, 0, 2), 2, told)
		checkLieIs(t, c, 1, signedBy(c.Keys, 1, 1), 2, false)
		checkLieIs(t, c, 1, signedBy(c.Keys, 2, 0), 2, false)
		c = checkRunIs(t, c, 1, nil, 1)
	}
}

func TestLiesAtTheMostParcels(t *testing.T) {
	for _, count := range []int{0, 2998, 2999, 3000} {
		c := plainCourt()
		c.Parcels = slices.Repeat([]impl.Parcel{parcel(60, 2)}, count)
		got := checkLieIs(t, c, 0, signedBy(c.Keys, 3, 4), 5, count < 3000)
		if len(got.Parcels) != min(count+1, 3000) {
			t.Errorf("of %d Parcels %d came to be", count, len(got.Parcels))
		}
	}
}

// checkFacts is P13 in its own words, for the tick that led from ahead to c: of what was accepted in it some node that does not lie has signed
// that round, ahead of the tick or by the acceptance itself; and what was accepted Most ticks ago all that do not lie have accepted by now.
func checkFacts(t *testing.T, ahead impl.Court, c impl.Court) {
	t.Helper()
	for _, f := range c.Facts[len(ahead.Facts):] {
		of := func(s impl.Seal) bool { return s.Round == f.Round && !c.Lies[s.Node] }
		own := func(s impl.Seal) bool { return s.Round == f.Round && s.Node == f.Node }
		if f.At != c.Now || !slices.ContainsFunc(ahead.Made, of) && !slices.ContainsFunc(c.Made, own) {
			t.Fatalf("%+v came about, but nobody has signed that round in %+v", f, c)
		}
	}
	for _, f := range c.Facts {
		if f.At+c.Rule.Most != c.Now {
			continue
		}
		for node, liar := range c.Lies {
			has := func(g impl.Fact) bool { return g.Node == int64(node) && g.Round >= f.Round }
			if !liar && !slices.ContainsFunc(c.Facts, has) {
				t.Fatalf("%+v came about, but not for %d in %+v", f, node, c)
			}
		}
	}
}

// ticked is one tick of a court that began as new, with P13 checked.
func ticked(t *testing.T, c impl.Court, delays []int64) impl.Court {
	t.Helper()
	next, is := impl.Ticked(c, delays)
	if !is {
		t.Fatalf("Ticked(%+v, %v) is refused", c, delays)
	}
	checkFacts(t, c, next)
	return next
}

// P13 at its limit: one that lies helps node 0 to the round as soon as it signs, and all that node 0 sends takes Most: so late, and no later, does
// node 1 come to it, whatever its own clock shows, and just ahead of the tick in which node 0 signs the next round.
func TestAcceptedAtMostMostLater(t *testing.T) {
	for _, r := range []impl.Rule{rule(3, 1, 10, 2, 1, 7), rule(3, 1, 10, 0, 9, 9), rule(3, 1, 2, 0, 1, 1), rule(3, 1, 1004, 3, 1, 1000), rule(3, 1, 30, 28, 1, 1)} {
		for _, off := range []int64{0, -1, -500, -maxOff} {
			c, is := impl.NewCourt(r, []int64{5, 6, 7}, []int64{0, off, 0}, []bool{false, false, true})
			if !is {
				t.Fatal(r)
			}
			delays := []int64{r.Most - r.Least}
			c, is = impl.LiedTo(c, 0, signedBy(c.Keys, 1, 2), r.Least)
			for range r.Period + r.Most {
				c = ticked(t, c, delays)
			}
			want := []impl.Fact{fact(0, 1, r.Period), fact(1, 1, r.Period+r.Most)}
			if !is || !slices.Equal(c.Facts, want) {
				t.Fatalf("%+v with the off %d came to %+v, want %+v", r, off, c.Facts, want)
			}
			if len(c.Made) > 2 || slices.ContainsFunc(c.Made, func(s impl.Seal) bool { return s.Round > 1 }) {
				t.Fatalf("%+v with the off %d has made %+v", r, off, c.Made)
			}
		}
	}
}

// P13 at its limit: as many as may lie tell all others all that they can, but nobody accepts a round before one more has signed it.
func TestLiarsAloneProveNothing(t *testing.T) {
	for liars := int64(1); liars <= 7; liars++ {
		nodes := 2*liars + 1
		lying, told := make([]bool, nodes), []int64{}
		for i := range liars {
			lying[2*i+1] = true
			told = append(told, 2*i+1)
		}
		c, _ := impl.NewCourt(rule(nodes, liars, 30, 7, 3, 20), keysAll(int(nodes), 99), slices.Repeat([]int64{-70}, int(nodes)), lying)
		seals := slices.Concat(signedBy(c.Keys, 1, told...), signedBy(c.Keys, 2, told...), signedBy(c.Keys, 3, told...))
		for c.Now < 99 {
			for _, to := range impl.HonestIn(c) {
				lied, is := impl.LiedTo(c, to, seals[:min(len(seals), int(c.Now))], 3+c.Now%18)
				if !is {
					t.Fatalf("nothing can be told to %d in %+v", to, c)
				}
				c = lied
			}
			c = ticked(t, c, nil)
			if len(c.Facts) != 0 || len(c.Made) != 0 {
				t.Fatalf("at %d: %+v", c.Now, c)
			}
		}
		c = ticked(t, c, nil)
		if len(c.Facts) != int(liars)+1 || len(c.Made) != int(liars)+1 {
			t.Fatalf("at %d: %+v", c.Now, c)
		}
	}
}

// newRule has a short Period, and so many rounds in few ticks.
func (p *picker) newRule() impl.Rule {
	liars := p.from(0, 3)
	least := p.from(1, 4)
	most := least + p.from(0, 6)
	alpha := p.from(0, 5)
	return rule(max(p.from(1, 8), 2*liars+1), liars, alpha+most+1+[]int64{0, p.from(0, 12)}[p.from(0, 1)], alpha, least, most)
}

// newCourt is one that NewCourt says true of, with clocks that are near each other or far apart.
func (p *picker) newCourt(t *testing.T) impl.Court {
	t.Helper()
	r := p.newRule()
	offs := make([]int64, r.Nodes)
	wide := []int64{0, 3, r.Period, 6 * r.Period, maxOff}[p.from(0, 4)]
	for i := range offs {
		offs[i] = p.around(wide)
	}
	c, is := impl.NewCourt(r, p.keysFor(r.Nodes), offs, p.liars(r))
	if !is {
		t.Fatalf("%+v is refused", r)
	}
	return c
}

// delays are any, of any count.
func (p *picker) delays() []int64 {
	list := numbersFrom(p.seed, int([]int64{0, 1, 2, 3, 7, p.from(0, 40), maxDelays}[p.from(0, 6)]))
	for i := range list {
		if p.from(0, 1) == 0 {
			list[i] = p.from(-9, 9)
		}
	}
	return list
}

// lie is what one that lies might tell: its own seals near the round that somebody waits for, and what the others have made; seldom what it can't.
func (p *picker) lie(c impl.Court) (to int64, seals []impl.Seal, delay int64) {
	to = p.from(0, c.Rule.Nodes-1)
	next := c.Peers[to].Next
	for range p.from(0, 8) {
		s := signed(c.Keys, max(1, next+p.from(-1, 3)), p.from(0, c.Rule.Nodes-1))
		if !c.Lies[s.Node] && len(c.Made) > 0 && p.from(0, 40) > 0 {
			s = c.Made[p.from(max(0, int64(len(c.Made))-9), int64(len(c.Made))-1)]
		}
		if c.Lies[s.Node] || slices.Contains(c.Made, s) || p.from(0, 40) == 0 {
			seals = append(seals, s)
		}
	}
	return to, seals, p.from(c.Rule.Least, c.Rule.Most+p.from(0, 30)/30)
}

// Ordinary courts, by many ticks with lies told between, each of which is held against the reckoning, field by field; and P13 in its own words.
func TestCourtsTickByTick(t *testing.T) {
	p := picker{seed: 1301}
	told, facts := 0, 0
	for range 120 {
		c := p.newCourt(t)
		delays := p.delays()
		for range 60 {
			for range p.from(0, 2) {
				to, seals, delay := p.lie(c)
				lied, is := checkLie(t, c, to, seals, delay)
				if is {
					told++
					c = lied
				}
			}
			if p.from(0, 4) == 0 {
				delays = p.delays()
			}
			next, is := checkTick(t, c, delays)
			if !is || !impl.CourtOk(next) {
				t.Fatalf("Ticked(%+v, %v) is refused, or no court", c, delays)
			}
			checkFacts(t, c, next)
			c = next
		}
		facts += len(c.Facts)
	}
	if told < 1000 || facts < 1000 {
		t.Errorf("just %d lies were told, %d Facts came about", told, facts)
	}
}

// P13 in its own words, in many more courts and ticks: those that lie tell what they can to whoever is next to accept, or to those far behind.
func TestNoRoundAheadOfItsTimeAndAllTogether(t *testing.T) {
	p := picker{seed: 1303}
	told, facts := 0, 0
	for range 500 {
		c := p.newCourt(t)
		delays := p.delays()
		for range 100 {
			for range p.from(0, 3) {
				to, seals, delay := p.lie(c)
				if lied, is := impl.LiedTo(c, to, seals, delay); is {
					told++
					c = lied
				}
			}
			c = ticked(t, c, delays)
		}
		facts += len(c.Facts)
	}
	if told < 10000 || facts < 10000 {
		t.Errorf("just %d lies were told, %d Facts came about", told, facts)
	}
}

// P13 where those that lie help one node alone, always the same or each by turns, with all that is made and all that they can make, as soon as may
// be, while whatever is sent takes as long as may be, or the longer the later a node is.
func TestLiarsThatHelpOne(t *testing.T) {
	for liars := int64(1); liars <= 4; liars++ {
		nodes := 2*liars + 1
		told := []int64{}
		for liar := range liars {
			told = append(told, liar)
		}
		for helped := range nodes + 1 {
			for _, delays := range [][]int64{{9}, {0}, {0, 9}, {9, 0, 3}, upTo(9)} {
				c, _ := impl.NewCourt(rule(nodes, liars, 16, 5, 1, 10), keysAll(int(nodes), 7), turnedRound(upTo(int(nodes))), liarsOf(nodes, 1<<liars-1))
				for range 80 {
					to := helped
					if helped == nodes {
						to = c.Now % nodes
					}
					for round := max(1, c.Peers[to].Next-1); round <= c.Peers[to].Next+2; round++ {
						seals := slices.DeleteFunc(slices.Clone(c.Made), func(s impl.Seal) bool { return s.Round != round })
						c, _ = impl.LiedTo(c, to, append(signedBy(c.Keys, round, told...), seals...), 1)
					}
					c = ticked(t, c, delays)
				}
				if len(c.Facts) < int(liars+1)*3 {
					t.Fatalf("just %+v came about", c.Facts)
				}
			}
		}
	}
}

// Right courts of all kinds, reached or not, by one tick and by some, and lies of all kinds.
func TestTicksOfCourtsOfAllKinds(t *testing.T) {
	p := picker{seed: 1307}
	right, refused := 0, 0
	for range 800 {
		c := p.court()
		delays := p.delays()
		checkRun(t, c, p.from(-1, 4), delays)
		to, seals, delay := p.lie(c)
		checkLie(t, c, to, seals, delay)
		if _, is := checkTick(t, c, delays); is {
			right++
		} else {
			refused++
		}
		p.spoilCourt(&c)
		checkTick(t, c, delays)
		checkLie(t, c, to, seals, delay)
		checkRun(t, c, p.from(-1, 4), delays)
	}
	if right < 100 || refused < 100 {
		t.Errorf("%d were done, %d refused", right, refused)
	}
}

// checkAll holds all that this chapter tells of a court against the reckoning.
func checkAll(t *testing.T, c impl.Court) {
	t.Helper()
	for _, delays := range [][]int64{nil, {5, -3}, upTo(maxDelays + 1)} {
		checkTick(t, c, delays)
		checkRun(t, c, 3, delays)
	}
	checkRun(t, c, 0, nil)
	checkRun(t, c, -1, nil)
	for _, seals := range [][]impl.Seal{nil, signedBy(fiveKeys(), 3, 1), signedBy(fiveKeys(), 3, 2)} {
		checkLie(t, c, 3, seals, 5)
		checkLie(t, c, 3, seals, 21)
	}
}

// A court that is wrong in one way, or in two, does not tick, and nobody lies in it.
func TestNothingTicksInWrongCourts(t *testing.T) {
	checkAll(t, impl.Court{})
	for _, fault := range courtFaults() {
		c := changed(fault)
		checkAll(t, c)
		if got, is := impl.Ticked(c, nil); is || !sameCourt(got, impl.Court{}) {
			t.Errorf("of %+v came %+v, %v", c, got, is)
		}
		if got, is := impl.LiedTo(c, 3, nil, 5); is || !sameCourt(got, impl.Court{}) {
			t.Errorf("of %+v came %+v, %v", c, got, is)
		}
		for _, ticks := range []int64{-1, 0, 1, maxRun, maxRun + 1} {
			if got, done := impl.RanFor(c, ticks, nil); done != -1 || !sameCourt(got, impl.Court{}) {
				t.Errorf("of %+v came %+v, %d", c, got, done)
			}
		}
	}
}

// Lists that are nil and lists that are empty are the same.
func TestEmptyListsOfTicks(t *testing.T) {
	none, empty := stillCourt(), stillCourt()
	empty.Parcels, empty.Made, empty.Facts = []impl.Parcel{}, []impl.Seal{}, []impl.Fact{}
	for node := range empty.Peers {
		empty.Peers[node].Seals = []impl.Seal{}
	}
	for _, c := range []impl.Court{none, empty} {
		checkAll(t, c)
		checkTickIs(t, c, nil, then(none, nil, asItIs))
		checkTickIs(t, c, []int64{}, then(empty, []impl.Parcel{}, asItIs))
	}
}

// The furthest numbers in every number of a court, one alone and all of them, and as all that is told beside the court.
func TestTicksOfFurthestNumbers(t *testing.T) {
	plain := plainCourt()
	for _, far := range []int64{math.MinInt64, math.MinInt64 + 1, -1, 0, 1, math.MaxInt64 - 1, math.MaxInt64} {
		all := cloneCourt(plain)
		for which, place := range courtNumbers(&all) {
			*place = far
			c := cloneCourt(plain)
			*courtNumbers(&c)[which] = far
			checkAll(t, c)
		}
		checkAll(t, all)
		for _, other := range []int64{math.MinInt64, 0, 3, math.MaxInt64} {
			checkTick(t, plain, []int64{far, other})
			checkRun(t, plain, far, []int64{other})
			checkLie(t, plain, far, nil, other)
			checkLie(t, plain, other, nil, far)
			for _, s := range []impl.Seal{seal(far, other, 5), seal(other, far, 5), seal(5, other, far), seal(far, far, far)} {
				checkLieIs(t, plain, 3, []impl.Seal{s}, 5, false)
			}
		}
	}
}

// Each number of a court some more and some less.
func TestTicksOfNearNumbers(t *testing.T) {
	plain := plainCourt()
	for which := range courtNumbers(&plain) {
		for _, by := range []int64{-100, -51, -50, -20, -2, -1, 1, 2, 20, 50, 51, 100, 240} {
			c := cloneCourt(plain)
			*courtNumbers(&c)[which] += by
			checkTick(t, c, []int64{4, 1})
			checkRun(t, c, 9, []int64{4, 1})
			checkLie(t, c, 0, signedBy(c.Keys[:2], 3, 1), 5)
		}
	}
}

// tickCalls each answer a court.
func tickCalls() []func(c impl.Court, numbers []int64, seals []impl.Seal) impl.Court {
	return []func(impl.Court, []int64, []impl.Seal) impl.Court{
		func(c impl.Court, numbers []int64, _ []impl.Seal) impl.Court {
			next, _ := impl.Ticked(c, numbers)
			return next
		},
		func(c impl.Court, numbers []int64, _ []impl.Seal) impl.Court {
			next, _ := impl.RanFor(c, 9, numbers)
			return next
		},
		func(c impl.Court, numbers []int64, _ []impl.Seal) impl.Court {
			next, _ := impl.RanFor(c, 0, numbers)
			return next
		},
		func(c impl.Court, numbers []int64, _ []impl.Seal) impl.Court {
			next, _ := impl.RanFor(c, -1, numbers)
			return next
		},
		func(c impl.Court, _ []int64, seals []impl.Seal) impl.Court {
			next, _ := impl.LiedTo(c, 0, seals, 5)
			return next
		},
		func(c impl.Court, _ []int64, seals []impl.Seal) impl.Court {
			next, _ := impl.LiedTo(c, 0, seals, 500)
			return next
		},
		func(c impl.Court, _ []int64, seals []impl.Seal) impl.Court {
			next, _ := impl.LiedTo(c, 1, seals, 5)
			return next
		},
	}
}

// tickCourts are courts in which much is sent and accepted, such as refuse the next tick, and wrong ones.
func tickCourts() []impl.Court {
	last := accepting(0, 2, 3)
	last.Now, last.Parcels = maxNow, nil
	full := accepting(0, 2, 3)
	full.Facts = slices.Repeat([]impl.Fact{fact(2, 1, 9)}, maxFacts-1)
	all := accepting(0, 2, 3)
	all.Parcels = append(all.Parcels, parcel(51, 0, signedByAll(all.Keys, 4, 5, 6)...), parcel(58, 2, signedByAll(all.Keys, 4)...))
	all.Made, all.Facts = signedByAll(all.Keys, 1, 2, 3), []impl.Fact{fact(0, 2, 30)}
	all.Peers[3] = peer(400, 2, false, signedByAll(all.Keys, 2, 3)...)
	signing := signingCourt(3, 20, 0, 1, 2)
	signing.Lies[4] = true
	return append(memoryCourts(), last, full, all, signing, accepting(0), stillCourt())
}

// P19: no argument is written into, nor the room around its lists, not even when the answer is filled up to the end of its own room; and asked again
// each function answers the same.
func TestTicksLeaveArguments(t *testing.T) {
	for _, c := range tickCourts() {
		for _, list := range [][]impl.Seal{nil, signedBy(fiveKeys(), 3, 1, 4), signedBy(fiveKeys(), 3, 3)} {
			for which, call := range tickCalls() {
				held, want := holdCourt(c), holdCourt(c)
				room, numbers := inRoom([]int64{5, 9, -3, 40})
				sealRoom, seals := roomOfSeals(list)
				wantRoom, wantSeals := slices.Clone(room), slices.Clone(sealRoom)
				first := cloneCourt(call(held.court, numbers, seals))
				for range 2 {
					got := call(held.court, numbers, seals)
					if !sameCourt(got, first) {
						t.Fatalf("call %d of %+v answered %+v, then %+v", which, want.court, first, got)
					}
					fillCourt(got)
				}
				if !held.same(want) || !slices.Equal(room, wantRoom) || !slices.Equal(sealRoom, wantSeals) {
					t.Fatalf("call %d: %+v, %v and %v became %+v, %v and %v", which, want, wantRoom, wantSeals, held, room, sealRoom)
				}
			}
		}
	}
}

// P19: an answer is new memory: what becomes later of the arguments is not to be seen in it.
func TestTickedIsNewMemory(t *testing.T) {
	for _, c := range tickCourts() {
		for which, call := range tickCalls() {
			c, numbers, seals := cloneCourt(c), []int64{5, 9}, signedBy(fiveKeys(), 3, 1, 4)
			got := call(c, numbers, seals)
			want := cloneCourt(got)
			fillCourt(c)
			fillRoom(numbers)
			fillWith(seals, seal(12345, 12345, 12345))
			if !sameCourt(got, want) {
				t.Fatalf("call %d: what was %+v became %+v", which, want, got)
			}
		}
	}
}

// wipeList writes over one list of a court, up to the end of its room, and leaves it empty; it says whether there is such a list.
func wipeList(c *impl.Court, which int) bool {
	wipeSeals := func(list *[]impl.Seal) {
		fillWith(*list, seal(12345, 12345, 12345))
		*list = nil
	}
	switch inner := which - 6; {
	case which == 0:
		fillRoom(c.Keys)
		c.Keys = nil
	case which == 1:
		fillWith(c.Lies, true)
		c.Lies = nil
	case which == 2:
		fillWith(c.Peers, peer(12345, 12345, true))
		c.Peers = nil
	case which == 3:
		fillWith(c.Parcels, parcel(12345, 12345))
		c.Parcels = nil
	case which == 4:
		wipeSeals(&c.Made)
	case which == 5:
		fillWith(c.Facts, fact(12345, 12345, 12345))
		c.Facts = nil
	case inner < len(c.Peers):
		wipeSeals(&c.Peers[inner].Seals)
	case inner < len(c.Peers)+len(c.Parcels):
		wipeSeals(&c.Parcels[inner-len(c.Peers)].Seals)
	default:
		return false
	}
	return true
}

// P19: no two lists of an answer share memory, nor the room behind them: what is written over one of them is in no other.
func TestListsOfTickedAreApart(t *testing.T) {
	for _, c := range tickCourts() {
		for call, asked := range tickCalls() {
			for which := 0; ; which++ {
				got := asked(c, []int64{5, 9}, signedBy(fiveKeys(), 3, 1, 4))
				want := cloneCourt(got)
				if !wipeList(&got, which) {
					break
				}
				wipeList(&want, which)
				if !sameCourt(got, want) {
					t.Fatalf("call %d: when list %d was written over, %+v became %+v", call, which, want, got)
				}
			}
		}
	}
}

// Nothing is kept from call to call: each answer is of what was told, whatever was asked before.
func TestNoTickIsKept(t *testing.T) {
	first, second := accepting(0, 2, 3), signingCourt(3, 20, 1, 3)
	for range 3 {
		checkTick(t, first, []int64{1, 2, 3})
		checkTick(t, second, []int64{1, 2, 3})
		checkRun(t, second, 30, []int64{4})
		checkTick(t, second, nil)
		checkLie(t, first, 0, signedBy(first.Keys, 3, 1), 5)
		checkTick(t, impl.Court{}, []int64{1, 2, 3})
	}
}
