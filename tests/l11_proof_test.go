package tests

import (
	"math"
	"slices"
	"testing"

	"loop.example/g00708/impl"
)

// signed is the right seal of a round by a node, as the tests reckon it.
func signed(keys []int64, round int64, node int64) impl.Seal {
	return seal(round, node, tagWant(keys[node], round, node))
}

// signedBy are the right seals of a round by some nodes, in the order in which these are told.
func signedBy(keys []int64, round int64, nodes ...int64) []impl.Seal {
	list := []impl.Seal{}
	for _, node := range nodes {
		list = append(list, signed(keys, round, node))
	}
	return list
}

// signedByAll are the right seals of some rounds, each by all nodes, rising.
func signedByAll(keys []int64, rounds ...int64) []impl.Seal {
	list := []impl.Seal{}
	for _, round := range rounds {
		for node := range keys {
			list = append(list, signed(keys, round, int64(node)))
		}
	}
	return list
}

// tagged is a seal with another tag.
func tagged(s impl.Seal, by int64) impl.Seal { return seal(s.Round, s.Node, s.Tag+by) }

// mergedWant goes through the rounds that there are, and through all nodes, and asks of each whether its right seal is there.
func mergedWant(keys []int64, a []impl.Seal, b []impl.Seal) []impl.Seal {
	there := map[impl.Seal]bool{}
	rounds := map[int64]bool{}
	for _, s := range slices.Concat(a, b) {
		there[s], rounds[s.Round] = true, true
	}
	want := []impl.Seal{}
	for round := int64(1); round <= maxRounds; round++ {
		for node := int64(0); rounds[round] && node < 16; node++ {
			if s, is := sealWant(keys, round, node); is && there[s] {
				want = append(want, s)
			}
		}
	}
	return want
}

// countWant asks of each node whether its right seal is in the list.
func countWant(keys []int64, list []impl.Seal, round int64) int64 {
	count := int64(0)
	for node := range int64(16) {
		if s, is := sealWant(keys, round, node); is && slices.Contains(list, s) {
			count++
		}
	}
	return count
}

func proofWant(keys []int64, liars int64, list []impl.Seal, round int64) bool {
	return liars >= 0 && countWant(keys, list, round) > liars
}

// bestWant goes down from the last round to the first one.
func bestWant(keys []int64, liars int64, list []impl.Seal, from int64) int64 {
	counts := map[int64]int64{}
	for _, s := range mergedWant(keys, list, nil) {
		counts[s.Round]++
	}
	for round := int64(maxRounds); round >= 1; round-- {
		if liars >= 0 && counts[round] > liars && round >= from {
			return round
		}
	}
	return 0
}

// checkMerged also says, beside the reckoning, what must be left of both, whichever of them is told first.
func checkMerged(t *testing.T, keys []int64, a []impl.Seal, b []impl.Seal, want ...impl.Seal) {
	t.Helper()
	if reckoned := mergedWant(keys, a, b); !slices.Equal(reckoned, want) {
		t.Fatalf("%v: %v and %v are %v by the reckoning, want %v", keys, a, b, reckoned, want)
	}
	if got := impl.MergedSeals(keys, a, b); !slices.Equal(got, want) {
		t.Fatalf("MergedSeals(%v, %v, %v) = %v, want %v", keys, a, b, got, want)
	}
	if got := impl.MergedSeals(keys, b, a); !slices.Equal(got, want) {
		t.Fatalf("MergedSeals(%v, %v, %v) = %v, want %v", keys, b, a, got, want)
	}
}

// checkMerge leaves what is left to the reckoning.
func checkMerge(t *testing.T, keys []int64, a []impl.Seal, b []impl.Seal) {
	t.Helper()
	checkMerged(t, keys, a, b, mergedWant(keys, a, b)...)
}

// checkCount also says what the count must be, and that it is a proof just with fewer liars.
func checkCount(t *testing.T, keys []int64, list []impl.Seal, round int64, want int64) {
	t.Helper()
	if got := impl.CountFor(keys, list, round); got != want || countWant(keys, list, round) != want {
		t.Fatalf("CountFor(%v, %v, %d) = %d, want %d", keys, list, round, got, want)
	}
	for _, liars := range []int64{-1, 0, 1, want - 2, want - 1, want, want + 1, 16, math.MaxInt64, math.MinInt64} {
		checkProof(t, keys, liars, list, round, liars >= 0 && liars < want)
	}
}

func checkProof(t *testing.T, keys []int64, liars int64, list []impl.Seal, round int64, want bool) {
	t.Helper()
	if got := impl.ProofOk(keys, liars, list, round); got != want || proofWant(keys, liars, list, round) != want {
		t.Fatalf("ProofOk(%v, %d, %v, %d) = %v, want %v", keys, liars, list, round, got, want)
	}
}

func checkBest(t *testing.T, keys []int64, liars int64, list []impl.Seal, from int64, want int64) {
	t.Helper()
	if got := impl.BestRound(keys, liars, list, from); got != want || bestWant(keys, liars, list, from) != want {
		t.Fatalf("BestRound(%v, %d, %v, %d) = %d, want %d", keys, liars, list, from, got, want)
	}
}

// checkList holds all that is asked of one list against the reckoning, for each of these numbers as round, from and liars.
func checkList(t *testing.T, keys []int64, list []impl.Seal, numbers ...int64) {
	t.Helper()
	checkMerge(t, keys, list, nil)
	for _, n := range numbers {
		checkCount(t, keys, list, n, countWant(keys, list, n))
		checkProof(t, keys, n, list, 1, proofWant(keys, n, list, 1))
		for _, liars := range []int64{-1, 0, 1, 2, 3, 15, 16, n} {
			checkBest(t, keys, liars, list, n, bestWant(keys, liars, list, n))
		}
	}
}

// checkNothing says that of these lists nothing is left and nothing proved.
func checkNothing(t *testing.T, keys []int64, a []impl.Seal, b []impl.Seal) {
	t.Helper()
	checkMerged(t, keys, a, b)
	for _, list := range [][]impl.Seal{a, b} {
		for _, n := range []int64{math.MinInt64, -1, 0, 1, 2, maxRounds, maxRounds + 1, math.MaxInt64} {
			checkCount(t, keys, list, n, 0)
			checkBest(t, keys, n, list, 1, 0)
			checkBest(t, keys, 0, list, n, 0)
		}
	}
}

// plainList is of fourKeys: of round 1 the node 3, twice, and the node 0; of round 2 three nodes; of round 3 none, but for a seal of round 2
// that was put there; of round 1000 the node 2.
func plainList() []impl.Seal {
	keys := fourKeys()
	return []impl.Seal{
		signed(keys, 2, 1), signed(keys, 1, 3), signed(keys, 1000, 2), tagged(signed(keys, 2, 0), 1), signed(keys, 1, 0),
		signed(keys, 2, 3), seal(3, 1, signed(keys, 2, 1).Tag), signed(keys, 1, 3), signed(keys, 2, 0),
	}
}

func TestOrdinaryMerges(t *testing.T) {
	keys := fourKeys()
	// Their tags stand in the tests of chapter 9, worked out by hand.
	first, second, third, fourth := seal(1, 0, 1306893369), seal(1, 1, 1782180888), seal(1, 2, 109984760), seal(2, 0, 5331058)
	checkMerged(t, keys, []impl.Seal{first}, nil, first)
	checkMerged(t, keys, []impl.Seal{fourth, first}, nil, first, fourth)
	checkMerged(t, keys, []impl.Seal{fourth}, []impl.Seal{third, first}, first, third, fourth)
	checkMerged(t, keys, []impl.Seal{fourth, second}, []impl.Seal{third, first}, first, second, third, fourth)
	checkMerged(t, keys, []impl.Seal{fourth, second}, []impl.Seal{second, fourth}, second, fourth)
	checkMerged(t, keys, []impl.Seal{third, tagged(second, 1)}, []impl.Seal{tagged(fourth, -1), first}, first, third)
	checkMerged(t, keys, []impl.Seal{tagged(second, 1)}, []impl.Seal{tagged(fourth, -1)})
	checkMerged(t, keys, plainList(), []impl.Seal{first, second, fourth},
		first, second, signed(keys, 1, 3), fourth, signed(keys, 2, 1), signed(keys, 2, 3), signed(keys, 1000, 2))
}

func TestOrdinaryCounts(t *testing.T) {
	keys, list := fourKeys(), plainList()
	checkCount(t, keys, list, 1, 2)
	checkCount(t, keys, list, 2, 3)
	checkCount(t, keys, list, 3, 0)
	checkCount(t, keys, list, 999, 0)
	checkCount(t, keys, list, maxRounds, 1)
	checkCount(t, keys, list, 0, 0)
	checkCount(t, keys, append(list, signed(keys, 2, 2)), 2, 4)
	checkCount(t, keys, append(list, tagged(signed(keys, 2, 2), 1)), 2, 3)
	// With other keys the seals of the two nodes that keep theirs stay.
	checkCount(t, []int64{11, 23, 34, 44}, list, 1, 2)
	checkCount(t, []int64{11, 23, 34, 44}, list, 2, 2)
	checkCount(t, []int64{12, 22, 33, 45}, list, 2, 1)
	checkCount(t, keys[:3], list, 2, 2)
	checkCount(t, keys[:1], list, 2, 1)
}

func TestOrdinaryProofs(t *testing.T) {
	keys, list := fourKeys(), plainList()
	checkProof(t, keys, 1, list, 1, true)
	checkProof(t, keys, 2, list, 1, false)
	checkProof(t, keys, 2, list, 2, true)
	checkProof(t, keys, 3, list, 2, false)
	checkProof(t, keys, 0, list, 3, false)
	checkProof(t, keys, 0, list, maxRounds, true)
	checkProof(t, keys, -1, list, 2, false)
	checkProof(t, keys, 2, append(list, signed(keys, 1, 2)), 1, true)
	checkProof(t, keys, 2, append(list, signed(keys, 1, 0)), 1, false)
}

func TestOrdinaryBestRounds(t *testing.T) {
	keys, list := fourKeys(), plainList()
	checkBest(t, keys, 0, list, 1, maxRounds)
	checkBest(t, keys, 0, list, maxRounds, maxRounds)
	checkBest(t, keys, 1, list, 1, 2)
	checkBest(t, keys, 2, list, 1, 2)
	checkBest(t, keys, 3, list, 1, 0)
	checkBest(t, keys, 1, list, 2, 2)
	checkBest(t, keys, 1, list, 3, 0)
	checkBest(t, keys, -1, list, 1, 0)
	checkBest(t, keys, 2, append(list, signed(keys, 1, 2)), 1, 2)
	checkBest(t, keys, 2, append(list, signedBy(keys, 999, 0, 1, 2)...), 1, 999)
	checkBest(t, keys, 2, append(list, signedBy(keys, 999, 0, 1, 1)...), 1, 2)
}

// eachOrder calls for each order in which a list can stand; the list that is handed over is written over by the next one.
func eachOrder(list []impl.Seal, call func([]impl.Seal)) {
	var from func(int)
	from = func(place int) {
		if place == len(list) {
			call(list)
			return
		}
		for i := place; i < len(list); i++ {
			list[place], list[i] = list[i], list[place]
			from(place + 1)
			list[place], list[i] = list[i], list[place]
		}
	}
	list = slices.Clone(list)
	from(0)
}

// Seven seals in every order, cut in two at every place: what is merged is by Round, then by Node, whatever the tags; and it is all one.
func TestEveryOrderIsOne(t *testing.T) {
	keys := fourKeys()
	want := []impl.Seal{signed(keys, 1, 0), signed(keys, 1, 2), signed(keys, 2, 0), signed(keys, 2, 1), signed(keys, 10, 3), signed(keys, 256, 0), signed(keys, 999, 1)}
	eachOrder(want, func(list []impl.Seal) {
		for cut := range len(list) + 1 {
			if got := impl.MergedSeals(keys, list[:cut], list[cut:]); !slices.Equal(got, want) {
				t.Fatalf("%v, cut at %d, is merged to %v", list, cut, got)
			}
		}
		if count := impl.CountFor(keys, list, 2); count != 2 {
			t.Fatalf("of %v %d have signed round 2", list, count)
		}
		if first, second := impl.BestRound(keys, 1, list, 0), impl.BestRound(keys, 0, list, 0); first != 2 || second != 999 {
			t.Fatalf("of %v the best rounds are %d and %d", list, first, second)
		}
	})
}

// Round goes ahead of Node, and Node ahead of Tag, both ways.
func TestRoundAheadOfNodeAheadOfTag(t *testing.T) {
	keys := upTo(16)
	for _, rounds := range [][2]int64{{1, 2}, {1, maxRounds}, {999, maxRounds}, {255, 256}, {9, 10}} {
		for first := range int64(16) {
			for second := range int64(16) {
				low, high := signed(keys, rounds[0], first), signed(keys, rounds[1], second)
				checkMerged(t, keys, []impl.Seal{high, low}, nil, low, high)
				checkMerged(t, keys, []impl.Seal{low}, []impl.Seal{high}, low, high)
				if first < second {
					after := signed(keys, rounds[0], second)
					checkMerged(t, keys, []impl.Seal{after}, []impl.Seal{high, low}, low, after, high)
				}
			}
		}
	}
	up, down := 0, 0
	for node := range int64(15) {
		if signed(keys, 1, node).Tag < signed(keys, 1, node+1).Tag {
			up++
		} else {
			down++
		}
	}
	if up == 0 || down == 0 {
		t.Errorf("the tags only rise or only fall, so that they would do for an order: %d, %d", up, down)
	}
}

// What is merged rises, and merging it again, with itself, with its parts or with wrong ones, leaves it as it is.
func TestMergedIsRising(t *testing.T) {
	p := picker{seed: 1103}
	for range 2000 {
		keys := p.keys()
		a, b := p.seals(keys), p.seals(keys)
		got := impl.MergedSeals(keys, a, b)
		for i := 1; i < len(got); i++ {
			if one, next := got[i-1], got[i]; one.Round > next.Round || one.Round == next.Round && one.Node >= next.Node {
				t.Fatalf("%v stands ahead of %v", one, next)
			}
		}
		for _, other := range [][]impl.Seal{nil, a, b, got, impl.MergedSeals(keys, a, nil), {seal(0, 0, 0), seal(1, 16, 1)}} {
			checkMerged(t, keys, got, other, got...)
		}
	}
}

// seals are of any count; most are right, of few rounds, and many are there twice.
func (p *picker) seals(keys []int64) []impl.Seal {
	list := make([]impl.Seal, p.from(0, 24))
	first := []int64{1, 1, maxRounds - 2, p.from(1, maxRounds-2)}[p.from(0, 3)]
	for i := range list {
		list[i] = p.sealNear(keys, first)
	}
	return list
}

// sealNear is a seal of round first or of one of the two behind it; one in four has something wrong with it.
func (p *picker) sealNear(keys []int64, first int64) impl.Seal {
	last := int64(len(keys)) - 1
	s := signed(keys, p.from(first, first+2), p.from(0, last))
	switch p.from(0, 31) {
	case 0:
		return tagged(s, 1)
	case 1:
		return tagged(s, -tagEnd)
	case 2:
		return seal(s.Round, p.from(-1, last+1), s.Tag)
	case 3:
		return seal(s.Round, last+1, s.Tag)
	case 4:
		return seal(p.from(first, first+2), s.Node, s.Tag)
	case 5:
		return seal(p.from(-1, 1), s.Node, s.Tag)
	case 6:
		return seal(maxRounds+p.from(0, 1), s.Node, tagWant(keys[s.Node], maxRounds+1, s.Node))
	case 7:
		return impl.Seal{}
	}
	return s
}

func TestProofsOfAllSizes(t *testing.T) {
	p := picker{seed: 1109}
	for range 700 {
		keys := p.keys()
		a, b := p.seals(keys), p.seals(keys)
		checkMerge(t, keys, a, b)
		numbers := []int64{p.from(1, maxRounds), p.from(-1, 3), p.from(maxRounds-3, maxRounds+1)}
		for _, s := range a {
			numbers = append(numbers, s.Round)
		}
		checkList(t, keys, a, slices.Compact(slices.Sorted(slices.Values(numbers)))...)
		other := p.keys()
		checkMerge(t, other, a, b)
		checkList(t, other, a, numbers[0], 1)
	}
}

// One seal, as often as one likes: side by side, in one list and in both.
func TestOneSealManyTimes(t *testing.T) {
	for _, keys := range [][]int64{{11}, fourKeys(), upTo(16), keysAll(16, maxKey)} {
		last := int64(len(keys)) - 1
		for _, s := range []impl.Seal{signed(keys, 1, 0), signed(keys, 7, last), signed(keys, maxRounds, last)} {
			for _, count := range []int{1, 2, 3, 17, maxSeals + 1, 1000} {
				list := slices.Repeat([]impl.Seal{s}, count)
				checkMerged(t, keys, list, nil, s)
				checkMerged(t, keys, list, list, s)
				checkMerged(t, keys, list[:1], list, s)
				checkCount(t, keys, list, s.Round, 1)
				checkBest(t, keys, 0, list, 0, s.Round)
				checkBest(t, keys, 1, list, 0, 0)
				wrong := slices.Repeat([]impl.Seal{tagged(s, 1)}, count)
				checkNothing(t, keys, wrong, wrong)
				checkMerged(t, keys, wrong, list, s)
			}
		}
	}
}

// A seal that is there twice, the second one at every distance, with others between; and some of them thrice.
func TestSealsTwice(t *testing.T) {
	keys := upTo(16)
	all := signedByAll(keys, 5, 6)
	for first := range all {
		for second := range len(all) + 1 {
			list := slices.Insert(slices.Clone(all), second, all[first])
			checkMerged(t, keys, list, nil, all...)
			checkMerged(t, keys, list[:second], list[second:], all...)
			checkCount(t, keys, list, 5, 16)
			checkCount(t, keys, list, 6, 16)
			checkBest(t, keys, 15, list, 0, 6)
			checkBest(t, keys, 16, list, 0, 0)
		}
	}
	few := signedBy(keys, 5, 3, 9, 3, 9, 9, 3)
	checkMerged(t, keys, few, few, few[:2]...)
	checkCount(t, keys, few, 5, 2)
	checkCount(t, keys, append(few, few...), 5, 2)
	checkBest(t, keys, 1, few, 0, 5)
	checkBest(t, keys, 2, few, 0, 0)
	turned := slices.Clone(all)
	slices.Reverse(turned)
	checkMerged(t, keys, all, all, all...)
	checkMerged(t, keys, all, turned, all...)
	checkMerged(t, keys, append(turned, all...), append(turned, all...), all...)
}

// One that is right beside others of the same round and node with other tags: ahead of it, behind it, in the other list.
func TestRightBesideWrongTags(t *testing.T) {
	for _, keys := range [][]int64{{11}, fourKeys(), keysAll(16, 3)} {
		node := int64(len(keys)) - 1
		for _, round := range []int64{1, 500, maxRounds} {
			s := signed(keys, round, node)
			for _, by := range []int64{1, -1, tagEnd, -tagEnd, -s.Tag, math.MaxInt64 - s.Tag, math.MinInt64} {
				wrong := tagged(s, by)
				for _, list := range [][]impl.Seal{{s, wrong}, {wrong, s}, {wrong, s, wrong}, {s, wrong, s}, {wrong, wrong, s}} {
					checkMerged(t, keys, list, nil, s)
					checkMerged(t, keys, list, list, s)
					checkMerged(t, keys, list[:1], list[1:], s)
					checkCount(t, keys, list, round, 1)
					checkBest(t, keys, 0, list, round, round)
				}
				checkNothing(t, keys, []impl.Seal{wrong}, []impl.Seal{wrong, wrong})
			}
		}
	}
}

// Nodes with the same key, and two nodes with one tag of a round: each counts for itself.
func TestAlikeTagsOfTwoNodes(t *testing.T) {
	keys := keysAll(16, 8)
	keys[0], keys[1] = 500000000, 18960329
	a, b := signed(keys, 4, 0), signed(keys, 4, 1)
	if a.Tag != b.Tag {
		t.Fatalf("%v and %v have two tags", a, b)
	}
	checkMerged(t, keys, []impl.Seal{b, a}, []impl.Seal{b}, a, b)
	checkCount(t, keys, []impl.Seal{b, a, b}, 4, 2)
	checkCount(t, keys, []impl.Seal{b, b}, 4, 1)
	checkCount(t, keys, []impl.Seal{b, seal(4, 2, b.Tag)}, 4, 1)
	all := signedByAll(keysAll(16, 8), 4)
	checkCount(t, keysAll(16, 8), all, 4, 16)
	checkCount(t, keys, all, 4, 14)
}

// Each count of signers for each count of nodes, with liars at each edge (checkCount), in any order, and with each of them twice.
func TestLiars(t *testing.T) {
	for nodes := int64(1); nodes <= 16; nodes++ {
		keys := upTo(16)[:nodes]
		for _, round := range []int64{1, 2, maxRounds} {
			for count := int64(0); count <= nodes; count++ {
				list := signedByAll(keys, round)[:count]
				last := signedByAll(keys, round)[nodes-count:]
				for _, each := range [][]impl.Seal{list, slices.Concat(list, list), last, append(last, tagged(signed(keys, round, 0), 1))} {
					checkCount(t, keys, each, round, count)
					checkCount(t, keys, each, round%maxRounds+1, 0)
					for _, liars := range []int64{-1, 0, count - 1, count, count + 1, math.MaxInt64, math.MinInt64} {
						best := int64(0)
						if liars >= 0 && liars < count {
							best = round
						}
						checkBest(t, keys, liars, each, 0, best)
						checkBest(t, keys, liars, each, round, best)
						checkBest(t, keys, liars, each, round+1, 0)
					}
				}
			}
		}
	}
}

// A round that is none is not proved, whatever seals there are of it.
func TestRoundsThatAreNone(t *testing.T) {
	for _, keys := range [][]int64{{11}, fourKeys(), keysAll(16, maxKey)} {
		for _, round := range []int64{
			0, -1, -2, -maxRounds, maxRounds + 1, maxRounds + 2, 2 * maxRounds, 1<<32 + 1, -1<<32 + 1, maxNs, -maxNs, math.MaxInt64, math.MinInt64,
		} {
			list := []impl.Seal{}
			for node := range keys {
				list = append(list, seal(round, int64(node), tagWant(keys[node], round%(2*maxRounds), int64(node))))
			}
			checkNothing(t, keys, list, nil)
			checkCount(t, keys, list, round, 0)
			checkBest(t, keys, 0, list, round, 0)
			// Beside right ones they change nothing.
			right := signedByAll(keys, 1, maxRounds)
			checkMerged(t, keys, list, right, right...)
			checkList(t, keys, append(list, right...), 0, 1, maxRounds, maxRounds+1, round)
		}
		right := signedByAll(keys, 1, 2, maxRounds-1, maxRounds)
		for _, round := range []int64{1, 2, maxRounds - 1, maxRounds} {
			checkCount(t, keys, right, round, int64(len(keys)))
		}
		for _, round := range append(edgeNumbers(), 0, -1, 3, 500, maxRounds-2, maxRounds+1) {
			if round != 1 && round != 2 {
				checkCount(t, keys, right, round, 0)
			}
		}
	}
}

// From at each round of a list, one ahead and one behind; below all rounds and beyond them.
func TestFrom(t *testing.T) {
	for _, keys := range [][]int64{{11}, fourKeys(), upTo(16)} {
		most := int64(len(keys)) - 1
		for _, round := range []int64{1, 2, 3, 500, maxRounds - 1, maxRounds} {
			list := signedByAll(keys, round)
			for _, from := range []int64{round, round - 1, 1, 0, -1, -round, -maxNs, math.MinInt64, math.MinInt64 + 1} {
				checkBest(t, keys, most, list, from, round)
				checkBest(t, keys, most+1, list, from, 0)
				checkBest(t, keys, -1, list, from, 0)
			}
			for _, from := range []int64{round + 1, round + 2, maxRounds + 1, maxRounds + 2, round + 1<<32, maxNs, math.MaxInt64 - 1, math.MaxInt64} {
				checkBest(t, keys, 0, list, from, 0)
			}
		}
		list := signedByAll(keys, 4, 7, 9)
		for from := int64(-3); from <= 9; from++ {
			checkBest(t, keys, most, list, from, 9)
			want := int64(7)
			if from > 7 {
				want = 0
			}
			checkBest(t, keys, most, list[:len(list)-1], from, want)
		}
		checkBest(t, keys, most, list, 10, 0)
	}
}

// The greatest round of those that are proved: whatever is signed by too few is passed over, ahead of it and behind it.
func TestBestPassesOverTheRest(t *testing.T) {
	keys := upTo(16)
	p := picker{seed: 1117}
	for range 300 {
		list := []impl.Seal{}
		counts := map[int64]int64{}
		for range p.from(1, 8) {
			round, count := p.round(), p.from(1, 16)
			if counts[round] == 0 {
				counts[round] = count
				list = append(list, signedByAll(keys, round)[:count]...)
			}
		}
		for liars := int64(-1); liars <= 16; liars++ {
			best := int64(0)
			for round, count := range counts {
				if liars >= 0 && count > liars {
					best = max(best, round)
				}
			}
			checkBest(t, keys, liars, list, 0, best)
			checkBest(t, keys, liars, list, best, best)
			for round, count := range counts {
				checkProof(t, keys, liars, list, round, liars >= 0 && count > liars)
			}
		}
	}
}

func TestOneNode(t *testing.T) {
	for _, key := range []int64{1, 11, maxKey} {
		keys := []int64{key}
		list := signedByAll(keys, 3, 8)
		checkMerged(t, keys, list[1:], list[:1], list...)
		checkCount(t, keys, list, 3, 1)
		checkBest(t, keys, 0, list, 0, 8)
		checkBest(t, keys, 1, list, 0, 0)
		checkMerged(t, keys, append(list, seal(3, 1, list[0].Tag), seal(3, -1, list[0].Tag)), nil, list...)
	}
}

// Keys that are not right prove nothing, though a seal hangs on the key of its own node alone.
func TestKeysThatAreNotRight(t *testing.T) {
	for count := 1; count <= 16; count++ {
		keys := upTo(16)[:count]
		list := signedByAll(keys, 1, maxRounds)
		checkMerged(t, keys, list, nil, list...)
		checkCount(t, keys, list, 1, int64(count))
		for _, c := range aroundKeys() {
			for _, place := range spots(count) {
				other := slices.Clone(keys)
				other[place] = c.n
				if !c.want {
					checkNothing(t, other, list, list[:1])
					continue
				}
				checkMerge(t, other, list, nil)
				if c.n == keys[place] {
					checkCount(t, other, list, 1, int64(count))
				} else {
					checkCount(t, other, list, 1, int64(count)-1)
				}
			}
		}
	}
	list := signedByAll(upTo(16), 1, 2)
	checkNothing(t, nil, list, list)
	checkNothing(t, []int64{}, list, nil)
	checkNothing(t, upTo(16)[:0], list, list)
	checkNothing(t, upTo(17), list, list)
	checkNothing(t, keysAll(17, 1), signedByAll(keysAll(16, 1), 1), nil)
	checkNothing(t, upTo(100), list, list)
	checkMerged(t, upTo(16), list, nil, list...)
	checkMerged(t, upTo(17)[:16], list, nil, list...)
}

// A seal of a node that is not there is none, whatever its tag, that of the key that would be its own too.
func TestNodesThatAreNone(t *testing.T) {
	for count := int64(1); count <= 16; count++ {
		keys := upTo(16)[:count]
		for _, node := range []int64{-1, -2, -count, count, count + 1, 16, 17, 1 << 32, 1<<32 + 1, -1 << 32, maxNs, math.MaxInt64, math.MinInt64} {
			list := []impl.Seal{seal(1, node, 0), seal(1, node, signed(keys, 1, 0).Tag), seal(1, node, signed(keys, 1, count-1).Tag)}
			if node >= 0 && node < 16 {
				list = append(list, signed(upTo(16), 1, node))
			}
			checkNothing(t, keys, list, list)
			right := signedBy(keys, 1, 0)
			checkMerged(t, keys, append(list, right...), list, right...)
			checkCount(t, keys, append(list, right...), 1, 1)
			checkBest(t, keys, 0, append(list, right...), 0, 1)
			checkBest(t, keys, 1, append(list, right...), 0, 0)
		}
		ends := signedBy(keys, 1, 0, count-1)
		checkCount(t, keys, ends, 1, min(count, 2))
		checkMerge(t, keys, ends, nil)
	}
}

// With fewer keys the seals of the nodes that have none any more go, and the others stay.
func TestFewerKeys(t *testing.T) {
	all := signedByAll(upTo(16), 1, 2)
	for count := int64(1); count <= 16; count++ {
		keys := upTo(16)[:count]
		checkMerged(t, keys, all, nil, append(slices.Clone(all[:count]), all[16:16+count]...)...)
		checkCount(t, keys, all, 2, count)
		checkBest(t, keys, count-1, all, 0, 2)
		checkBest(t, keys, count, all, 0, 0)
	}
}

func TestNoSeals(t *testing.T) {
	for _, keys := range [][]int64{nil, {}, {0}, {11}, fourKeys(), upTo(16), upTo(17)} {
		for _, a := range [][]impl.Seal{nil, {}, plainList()[:0]} {
			for _, b := range [][]impl.Seal{nil, {}, plainList()[:0]} {
				checkNothing(t, keys, a, b)
			}
		}
	}
	keys, list := fourKeys(), plainList()
	for _, b := range [][]impl.Seal{nil, {}, {{}}, list[:0]} {
		checkMerged(t, keys, list, b, mergedWant(keys, list, list)...)
	}
}

// Seals that stand behind the end of a list are not of it.
func TestSpareRoomProvesNothing(t *testing.T) {
	keys := fourKeys()
	list := signedByAll(keys, 1, 2)
	for count := range list {
		checkMerged(t, keys, list[:count], nil, slices.Clone(list[:count])...)
		checkCount(t, keys, list[:count], 1, int64(min(count, 4)))
		checkCount(t, keys, list[:count], 2, int64(max(count-4, 0)))
	}
	checkBest(t, keys, 3, list[:7], 0, 1)
	checkBest(t, keys, 3, list, 0, 2)
}

// everyRound is the right seal of every round by every node, rising.
func everyRound(keys []int64) []impl.Seal {
	rounds := []int64{}
	for round := int64(1); round <= maxRounds; round++ {
		rounds = append(rounds, round)
	}
	return signedByAll(keys, rounds...)
}

// shuffled is a list in an order of its own.
func (p *picker) shuffled(list []impl.Seal) []impl.Seal {
	list = slices.Clone(list)
	for i := len(list) - 1; i > 0; i-- {
		j := p.from(0, int64(i))
		list[i], list[j] = list[j], list[i]
	}
	return list
}

// Lists with seals of every round, by one node and by all: rising, falling and in no order, twice, and with wrong ones between.
func TestLongLists(t *testing.T) {
	p := picker{seed: 1123}
	for _, keys := range [][]int64{{11}, fourKeys(), keysAll(16, maxKey)} {
		all, most := everyRound(keys), int64(len(keys))
		falling := slices.Clone(all)
		slices.Reverse(falling)
		wrong := []impl.Seal{}
		for _, s := range all {
			wrong = append(wrong, tagged(s, 1), s, seal(s.Round+1, s.Node, s.Tag))
		}
		for _, list := range [][]impl.Seal{all, falling, p.shuffled(all), p.shuffled(append(falling, all...)), wrong, p.shuffled(wrong)} {
			half := len(list) / 2
			for _, got := range [][]impl.Seal{
				impl.MergedSeals(keys, list, nil), impl.MergedSeals(keys, nil, list), impl.MergedSeals(keys, list[half:], list[:half]), impl.MergedSeals(keys, list, all),
			} {
				if !slices.Equal(got, all) {
					t.Fatalf("%d seals are merged to %d", len(list), len(got))
				}
			}
			for _, round := range []int64{1, 2, 499, 500, maxRounds - 1, maxRounds} {
				if got := impl.CountFor(keys, list, round); got != most {
					t.Fatalf("of round %d there are %d", round, got)
				}
			}
			for _, from := range []int64{math.MinInt64, 0, 1, 500, maxRounds} {
				if got, none := impl.BestRound(keys, most-1, list, from), impl.BestRound(keys, most, list, from); got != maxRounds || none != 0 {
					t.Fatalf("from %d the best round is %d, and %d", from, got, none)
				}
			}
			if got := impl.BestRound(keys, 0, list, maxRounds+1); got != 0 {
				t.Fatalf("beyond all rounds the best one is %d", got)
			}
		}
	}
}

// Of every round one seal fewer than a proof needs, but for one round, which is found wherever it is.
func TestOneRoundOfMany(t *testing.T) {
	keys := fourKeys()
	few := slices.DeleteFunc(everyRound(keys), func(s impl.Seal) bool { return s.Node == s.Round%4 })
	p := picker{seed: 1129}
	for round := int64(1); round <= maxRounds; round++ {
		list := few
		if round%100 < 3 {
			list = p.shuffled(few)
		}
		list = slices.Insert(slices.Clone(list), int(p.from(0, int64(len(list)))), signed(keys, round, round%4))
		if got := impl.BestRound(keys, 3, list, p.from(0, round)); got != round {
			t.Fatalf("of round %d there are four, and the best one is %d", round, got)
		}
		if got := impl.BestRound(keys, 3, list, round+1); got != 0 {
			t.Fatalf("behind round %d the best one is %d", round, got)
		}
	}
}

// addition is a list of seals to be added to another one: right ones, wrong ones, such as are there already, and all kinds together.
func (p *picker) addition(keys []int64, list []impl.Seal) []impl.Seal {
	more := p.seals(keys)
	for _, s := range list {
		switch p.from(0, 7) {
		case 0:
			more = append(more, s)
		case 1:
			more = append(more, tagged(s, p.from(-2, 2)))
		case 2:
			more = append(more, seal(s.Round, p.from(-1, 16), s.Tag))
		case 3:
			more = append(more, seal(s.Round+p.from(-1, 1), s.Node, p.from(0, tagEnd-1)))
		}
	}
	for _, n := range numbersFrom(p.seed, 2) {
		more = append(more, seal(n, p.node(), p.tag()), seal(p.round(), n, p.tag()), seal(p.round(), p.node(), n))
	}
	return p.shuffled(more)
}

// mixed puts the second list between the first one's, each at a place of its own.
func (p *picker) mixed(list []impl.Seal, more []impl.Seal) []impl.Seal {
	list = slices.Clone(list)
	for _, s := range more {
		list = slices.Insert(list, int(p.from(0, int64(len(list)))), s)
	}
	return list
}

// checkNoLess is P11: whatever is more in the second list, it proves no less than the first one.
func checkNoLess(t *testing.T, keys []int64, list []impl.Seal, more []impl.Seal, rounds ...int64) {
	t.Helper()
	for _, round := range rounds {
		before, after := impl.CountFor(keys, list, round), impl.CountFor(keys, more, round)
		if after < before {
			t.Fatalf("%v: of round %d %d are counted in %v and %d in %v", keys, round, before, list, after, more)
		}
		for liars := int64(-1); liars <= 17; liars++ {
			if impl.ProofOk(keys, liars, list, round) && !impl.ProofOk(keys, liars, more, round) {
				t.Fatalf("%v: with %d liars round %d is proved by %v, and not by %v", keys, liars, round, list, more)
			}
			if first, then := impl.BestRound(keys, liars, list, round), impl.BestRound(keys, liars, more, round); then < first {
				t.Fatalf("%v: with %d liars the best round from %d is %d of %v and %d of %v", keys, liars, round, first, list, then, more)
			}
		}
	}
	left := impl.MergedSeals(keys, more, nil)
	for _, s := range impl.MergedSeals(keys, list, nil) {
		if !slices.Contains(left, s) {
			t.Fatalf("%v: %v is left of %v and not of %v", keys, s, list, more)
		}
	}
}

// P11 in its own words: seals ahead of those that are there, behind them and between them, right ones and wrong ones.
func TestMoreSealsProveNoLess(t *testing.T) {
	p := picker{seed: 1151}
	for range 1000 {
		keys := p.keys()
		list := p.seals(keys)
		more := p.addition(keys, list)
		rounds := []int64{0, 1, maxRounds, p.from(1, maxRounds)}
		for _, s := range append(slices.Clone(list), more...) {
			rounds = append(rounds, s.Round)
		}
		slices.Sort(rounds)
		rounds = slices.Compact(rounds)
		for _, longer := range [][]impl.Seal{
			slices.Concat(list, more), slices.Concat(more, list), p.mixed(list, more), slices.Concat(list, list), impl.MergedSeals(keys, list, more),
		} {
			checkNoLess(t, keys, list, longer, rounds...)
		}
		// Another one at a time, so that each step proves no less than the one ahead of it.
		for _, s := range more {
			longer := p.mixed(list, []impl.Seal{s})
			checkNoLess(t, keys, list, longer, s.Round, 1)
			list = longer
		}
	}
}

// P11 at its limits: a proof by just one more than can lie stays one, and one fewer becomes one by just the seal that it lacks.
func TestMoreSealsAtTheLimits(t *testing.T) {
	p := picker{seed: 1153}
	for nodes := int64(1); nodes <= 16; nodes++ {
		keys := keysAll(int(nodes), maxKey)
		for liars := int64(0); liars < nodes; liars++ {
			for _, round := range []int64{1, 2, 999, maxRounds} {
				just := signedByAll(keys, round)[:liars+1]
				checkProof(t, keys, liars, just, round, true)
				checkBest(t, keys, liars, just, round, round)
				for _, s := range append(p.addition(keys, just), tagged(just[0], 1), just[liars], impl.Seal{}, seal(round, nodes, 0), seal(round, -1, 0)) {
					for _, place := range spots(len(just)) {
						longer := slices.Insert(slices.Clone(just), place, s)
						checkNoLess(t, keys, just, longer, round, 1, maxRounds)
						checkProof(t, keys, liars, longer, round, true)
						fewer := slices.Delete(slices.Clone(longer), 0, 1)
						checkProof(t, keys, liars, fewer, round, proofWant(keys, liars, fewer, round))
					}
				}
				few := just[1:]
				checkProof(t, keys, liars, few, round, false)
				checkBest(t, keys, liars, few, 0, 0)
				checkProof(t, keys, liars, append(slices.Clone(few), few...), round, false)
				checkProof(t, keys, liars, append(slices.Clone(few), tagged(just[0], 1)), round, false)
				checkProof(t, keys, liars, append(slices.Clone(few), just[0]), round, true)
			}
		}
	}
}

// More seals of a later round make it the best one; more of an earlier one change nothing.
func TestBestRoundGrows(t *testing.T) {
	keys := fourKeys()
	list := signedByAll(keys, 500)
	for round := int64(1); round <= maxRounds; round++ {
		for count := 1; count <= 4; count++ {
			longer := append(slices.Clone(list), signedByAll(keys, round)[:count]...)
			want := int64(500)
			if round > 500 && count > 1 {
				want = round
			}
			if got, other := impl.BestRound(keys, 1, longer, 3), impl.BestRound(keys, 1, longer[1:], 3); got != want || other != want {
				t.Fatalf("with %d of round %d the best one is %d, and %d", count, round, got, other)
			}
		}
	}
}

// The furthest numbers in every number of a seal: one alone, two, all three; as round, from and liars; and in the keys.
func TestProofsOfFurthestNumbers(t *testing.T) {
	furthest := []int64{math.MinInt64, math.MinInt64 + 1, -1, 0, 1, math.MaxInt64 - 1, math.MaxInt64}
	keys := fourKeys()
	right := signedByAll(keys, 1, maxRounds)
	wrong := []impl.Seal{}
	for _, a := range furthest {
		for _, b := range furthest {
			for _, c := range append(furthest, right[0].Tag) {
				wrong = append(wrong, seal(a, b, c))
			}
		}
	}
	wrong = slices.DeleteFunc(wrong, func(s impl.Seal) bool { return s == right[0] })
	for _, s := range wrong {
		checkNothing(t, keys, []impl.Seal{s}, []impl.Seal{s, s})
		checkMerged(t, keys, []impl.Seal{s}, right, right...)
	}
	checkNothing(t, keys, wrong, wrong)
	checkMerged(t, keys, wrong, right, right...)
	for _, a := range furthest {
		checkList(t, keys, slices.Concat(right, wrong), a)
		for _, b := range furthest {
			checkProof(t, keys, a, right, b, proofWant(keys, a, right, b))
			checkBest(t, keys, a, right, b, bestWant(keys, a, right, b))
			for _, other := range [][]int64{{a}, {a, b}, {11, a}, {b, 22, 33, 44}, {11, 22, 33, a}} {
				checkMerge(t, other, right, wrong[:20])
				checkList(t, other, right, a, b)
			}
		}
	}
}

// memoryLists are lists of which the answer has all, some or none.
func memoryLists() [][]impl.Seal {
	keys := fourKeys()
	return [][]impl.Seal{
		nil, {}, signedBy(keys, 1, 0), signedByAll(keys, 1, 2), plainList(), {tagged(signed(keys, 1, 0), 1)}, slices.Repeat(signedBy(keys, 2, 1), 5), {{}, {}},
	}
}

// roomOfSeals is a list of seals between right ones, ahead of it and behind it.
func roomOfSeals(list []impl.Seal) (room []impl.Seal, held []impl.Seal) {
	keys := fourKeys()
	return roomAround(list, signed(keys, 9, 3), signed(keys, 9, 2), seal(-7, -8, -9), signed(keys, 9, 0), seal(7, 8, 9))
}

// P19: no argument is written into, nor the room ahead of it and behind it, not even when the answer is filled up to the end of its own
// room; and asked again each function answers the same.
func TestSealsStay(t *testing.T) {
	for _, keys := range [][]int64{fourKeys(), {11}, nil, {0}, {11, 22, 33, maxKey + 1}, upTo(16)} {
		for _, a := range memoryLists() {
			for _, b := range memoryLists() {
				keysRoom, heldKeys := inRoom(keys)
				firstRoom, first := roomOfSeals(a)
				secondRoom, second := roomOfSeals(b)
				wantKeys, wantFirst, wantSecond := slices.Clone(keysRoom), slices.Clone(firstRoom), slices.Clone(secondRoom)
				for range 2 {
					checkMerge(t, heldKeys, first, second)
					checkList(t, heldKeys, first, 0, 1, 2, 9)
					got := impl.MergedSeals(heldKeys, first, second)
					fillWith(got, seal(12345, 12345, 12345))
					if !slices.Equal(keysRoom, wantKeys) || !slices.Equal(firstRoom, wantFirst) || !slices.Equal(secondRoom, wantSecond) {
						t.Fatalf("%v, %v and %v became %v, %v and %v", wantKeys, wantFirst, wantSecond, keysRoom, firstRoom, secondRoom)
					}
				}
			}
		}
	}
}

// P19: the answer is new memory each time, and what an argument becomes later is not to be seen in it.
func TestMergedIsNewMemory(t *testing.T) {
	keys := fourKeys()
	for _, a := range memoryLists() {
		for _, b := range memoryLists() {
			first, second := slices.Clone(a), slices.Clone(b)
			want := mergedWant(keys, a, b)
			one, other := impl.MergedSeals(keys, first, second), impl.MergedSeals(keys, first, second)
			fillWith(first, impl.Seal{})
			fillWith(second, impl.Seal{})
			fillWith(one, seal(1, 1, 1))
			if !slices.Equal(other, want) {
				t.Fatalf("%v and %v were merged to %v, which became %v", a, b, want, other)
			}
		}
	}
}

// Both lists may be one and the same, or lie one over the other.
func TestListsThatShareMemory(t *testing.T) {
	keys := fourKeys()
	room := signedByAll(keys, 3, 1, 2)
	before := slices.Clone(room)
	for from := range len(room) {
		for to := from; to <= len(room); to++ {
			checkMerge(t, keys, room[from:to], room)
			checkMerge(t, keys, room[from:to], room[:from])
			checkMerge(t, keys, room[from:to], room[from:])
		}
	}
	if !slices.Equal(room, before) {
		t.Fatalf("%v became %v", before, room)
	}
}

// Nothing is kept from call to call: with keys and seals that changed since, the answer is of what they are now.
func TestNoSealsAreKept(t *testing.T) {
	keys := fourKeys()
	list := signedByAll(keys, 1)
	checkCount(t, keys, list, 1, 4)
	keys[2] = 34
	checkCount(t, keys, list, 1, 3)
	list[0].Tag++
	checkCount(t, keys, list, 1, 2)
	checkBest(t, keys, 2, list, 0, 0)
	keys[2] = 33
	list[0].Tag--
	checkCount(t, keys, list, 1, 4)
	checkBest(t, keys, 3, list, 0, 1)
}
