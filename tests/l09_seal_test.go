package tests

import (
	"math"
	"math/big"
	"slices"
	"testing"

	"loop.example/g00708/impl"
)

const (
	maxKey    = 1000000000
	maxRounds = 1000
	tagEnd    = 2147483647
)

func seal(round int64, node int64, tag int64) impl.Seal {
	return impl.Seal{Round: round, Node: node, Tag: tag}
}

// fourKeys are keys of which the tests tell the tags by hand.
func fourKeys() []int64 { return []int64{11, 22, 33, 44} }

// keysAll are count keys that are all alike.
func keysAll(count int, key int64) []int64 { return slices.Repeat([]int64{key}, count) }

func keysWant(keys []int64) bool {
	if len(keys) == 0 || len(keys) > 16 {
		return false
	}
	return !slices.ContainsFunc(keys, func(key int64) bool { return key <= 0 || key > maxKey })
}

// tagWant takes the three steps as one sum, and leaves the modulus for the end.
func tagWant(key int64, round int64, node int64) int64 {
	x := new(big.Int).Add(big.NewInt(key), big.NewInt(8191*round+131*node))
	y := x.Add(x.Mul(x, big.NewInt(48271)), big.NewInt(key))
	tag := y.Add(y.Mul(y, big.NewInt(69621)), big.NewInt(round))
	return tag.Mod(tag, big.NewInt(tagEnd)).Int64()
}

func sealWant(keys []int64, round int64, node int64) (impl.Seal, bool) {
	if !keysWant(keys) || round <= 0 || round > maxRounds || node < 0 || node >= int64(len(keys)) {
		return impl.Seal{}, false
	}
	return seal(round, node, tagWant(keys[node], round, node)), true
}

func checkKeys(t *testing.T, keys []int64, want bool) {
	t.Helper()
	if got := impl.KeysOk(keys); got != want || keysWant(keys) != want {
		t.Fatalf("KeysOk(%v) = %v, want %v", keys, got, want)
	}
}

func checkRight(t *testing.T, keys []int64, s impl.Seal, want bool) {
	t.Helper()
	if got := impl.SealRight(keys, s); got != want {
		t.Fatalf("SealRight(%v, %+v) = %v, want %v", keys, s, got, want)
	}
}

// checkSeal holds all three functions against a reckoning of the tests' own, and the tag against some others.
func checkSeal(t *testing.T, keys []int64, round int64, node int64) {
	t.Helper()
	if got, want := impl.KeysOk(keys), keysWant(keys); got != want {
		t.Fatalf("KeysOk(%v) = %v, want %v", keys, got, want)
	}
	want, wantIs := sealWant(keys, round, node)
	if got, is := impl.SealOf(keys, round, node); got != want || is != wantIs {
		t.Fatalf("SealOf(%v, %d, %d) = %+v, %v, want %+v, %v", keys, round, node, got, is, want, wantIs)
	}
	for _, tag := range []int64{want.Tag, 0, 1, want.Tag + 1, want.Tag - 1, want.Tag + tagEnd, want.Tag - tagEnd} {
		checkRight(t, keys, seal(round, node, tag), wantIs && tag == want.Tag)
	}
}

// checkTag also says, beside the reckoning, what the tag must be.
func checkTag(t *testing.T, keys []int64, round int64, node int64, tag int64) {
	t.Helper()
	if got, is := impl.SealOf(keys, round, node); got != seal(round, node, tag) || !is {
		t.Fatalf("SealOf(%v, %d, %d) = %+v, %v, want the tag %d", keys, round, node, got, is, tag)
	}
	checkRight(t, keys, seal(round, node, tag), true)
	checkSeal(t, keys, round, node)
}

// checkNoSeal says that there is none, whatever the tag: the one that the round and the node would have of a key, too.
func checkNoSeal(t *testing.T, keys []int64, round int64, node int64) {
	t.Helper()
	if got, is := impl.SealOf(keys, round, node); got != (impl.Seal{}) || is {
		t.Fatalf("SealOf(%v, %d, %d) = %+v, %v, want none", keys, round, node, got, is)
	}
	for _, key := range append([]int64{0, 1, 11, maxKey}, keys...) {
		checkRight(t, keys, seal(round, node, tagWant(key, round, node)), false)
	}
	checkRight(t, keys, impl.Seal{}, false)
	checkSeal(t, keys, round, node)
}

func TestSealLimits(t *testing.T) {
	if impl.MaxKey != maxKey || impl.MaxRounds != maxRounds {
		t.Errorf("MaxKey = %d, MaxRounds = %d", impl.MaxKey, impl.MaxRounds)
	}
}

func TestOrdinarySeals(t *testing.T) {
	// Of the first one x is 11 + 8191 = 8202, y is 48271 * 8202 + 11 = 395918753, and the tag is 69621 * y + 1 less 12835 times M.
	checkTag(t, fourKeys(), 1, 0, 1306893369)
	checkTag(t, fourKeys(), 1, 1, 1782180888)
	checkTag(t, fourKeys(), 1, 2, 109984760)
	checkTag(t, fourKeys(), 1, 3, 585272279)
	checkTag(t, fourKeys(), 2, 0, 5331058)
	checkTag(t, []int64{1}, 1, 0, 2059182601)
	checkTag(t, []int64{1}, 1000, 0, 1026040347)
	checkTag(t, []int64{maxKey}, 1, 0, 338256795)
	checkTag(t, keysAll(16, 1), 1, 15, 126431244)
	checkTag(t, keysAll(16, maxKey), 1000, 15, 1667330478)
}

// Keys of which the tag is the least one, the greatest one, or where y is 0 and the tag is the round.
func TestTagsAtTheirEnds(t *testing.T) {
	for _, c := range []struct{ key, round, node, tag int64 }{
		{770004548, 1, 0, 0}, {288964877, 1, 1, 0}, {766864972, 2, 15, 0}, {432258250, 1000, 15, 0},
		{569874286, 1000, 0, 1}, {901341432, 3, 15, 1},
		{924492965, 1, 1, tagEnd - 1}, {28053537, 2, 0, tagEnd - 1}, {297781790, 999, 15, tagEnd - 1},
		{134476460, 1, 0, 1}, {268952920, 2, 0, 2}, {559329762, 1000, 15, 1000},
	} {
		keys := keysAll(16, 5)
		keys[c.node] = c.key
		checkTag(t, keys, c.round, c.node, c.tag)
		for _, tag := range []int64{c.tag + tagEnd, c.tag - tagEnd, c.tag + 1, c.tag - 1, -c.tag - 1, tagEnd} {
			checkRight(t, keys, seal(c.round, c.node, tag), false)
		}
	}
}

func TestHowManyKeys(t *testing.T) {
	checkKeys(t, nil, false)
	checkKeys(t, []int64{}, false)
	checkKeys(t, []int64{7, 8}[:0], false)
	for _, key := range []int64{1, 7, maxKey} {
		for count := 1; count <= 16; count++ {
			checkKeys(t, keysAll(count, key), true)
		}
		for _, count := range []int{17, 18, 32, 256, 1000} {
			checkKeys(t, keysAll(count, key), false)
			checkNoSeal(t, keysAll(count, key), 1, 0)
			checkNoSeal(t, keysAll(count, key), 1, 15)
			checkNoSeal(t, keysAll(count, key), 1, 16)
		}
	}
	checkKeys(t, fourKeys(), true)
	checkKeys(t, upTo(16), true)
	checkKeys(t, turnedRound(upTo(16)), true)
}

// aroundKeys are numbers and whether they are keys.
func aroundKeys() []struct {
	n    int64
	want bool
} {
	return []struct {
		n    int64
		want bool
	}{
		{1, true}, {2, true}, {maxKey - 1, true}, {maxKey, true},
		{0, false}, {-1, false}, {-7, false}, {maxKey + 1, false}, {2 * maxKey, false}, {-maxKey, false},
		{tagEnd, false}, {tagEnd + 1, false}, {1<<32 + 1, false}, {maxNs, false}, {-maxNs, false},
		{math.MaxInt64, false}, {math.MinInt64, false}, {math.MinInt64 + 1, false},
	}
}

// One wrong key at any place, the first and the last one too, spoils all of them: no node has a seal, whatever its own key.
func TestEachKeyAtEachPlace(t *testing.T) {
	for _, c := range aroundKeys() {
		for count := 1; count <= 16; count++ {
			for place := range count {
				keys := keysAll(count, 9)
				keys[place] = c.n
				checkKeys(t, keys, c.want)
				for _, node := range []int64{0, int64(place), int64(count) - 1} {
					if c.want {
						checkTag(t, keys, 3, node, tagWant(keys[node], 3, node))
					} else {
						checkNoSeal(t, keys, 3, node)
					}
				}
			}
		}
	}
}

// What is behind the last key counts for nothing, right or wrong.
func TestSpareRoomIsNoKey(t *testing.T) {
	room := []int64{11, 22, 33, 0, -5}
	checkKeys(t, room[:3], true)
	checkNoSeal(t, room[:3], 1, 3)
	checkTag(t, room[:3], 1, 2, 109984760)
	checkKeys(t, keysAll(17, 4)[:16], true)
	checkNoSeal(t, keysAll(17, 4)[:16], 1, 16)
	checkNoSeal(t, fourKeys()[:0], 1, 0)
}

func TestNoKeys(t *testing.T) {
	for _, keys := range [][]int64{nil, {}} {
		for _, n := range []int64{-1, 0, 1, 15, 16, math.MaxInt64, math.MinInt64} {
			checkNoSeal(t, keys, 1, n)
			checkNoSeal(t, keys, n, 0)
			checkNoSeal(t, keys, n, n)
		}
	}
}

func TestRounds(t *testing.T) {
	for _, keys := range [][]int64{{11}, fourKeys(), upTo(16), keysAll(16, maxKey)} {
		last := int64(len(keys)) - 1
		for _, round := range []int64{1, 2, 999, maxRounds} {
			checkTag(t, keys, round, 0, tagWant(keys[0], round, 0))
			checkTag(t, keys, round, last, tagWant(keys[last], round, last))
		}
		for _, round := range []int64{
			0, -1, -2, -maxRounds, maxRounds + 1, maxRounds + 2, 1<<16 + 1, tagEnd + 1, 1<<32 + 1, -1<<32 + 1,
			maxNs, -maxNs, maxNs + 1, math.MaxInt64, math.MinInt64, math.MinInt64 + 1,
		} {
			checkNoSeal(t, keys, round, 0)
			checkNoSeal(t, keys, round, last)
		}
	}
}

func TestNodesOfKeys(t *testing.T) {
	for count := 1; count <= 16; count++ {
		keys := upTo(16)[:count]
		for node := range int64(count) {
			checkTag(t, keys, 1, node, tagWant(node+1, 1, node))
			checkTag(t, keys, maxRounds, node, tagWant(node+1, maxRounds, node))
		}
		for _, node := range []int64{
			-1, -2, int64(-count), int64(count), int64(count) + 1, 16, 17, tagEnd, 1 << 32, -1 << 32, 1<<32 + 1,
			maxNs, -maxNs, maxNs + 1, math.MaxInt64, math.MinInt64, math.MinInt64 + 1,
		} {
			checkNoSeal(t, keys, 1, node)
			checkNoSeal(t, keys, maxRounds, node)
		}
	}
}

// manyKeys are lists of 1 to 16 keys of all sizes.
func manyKeys(seed uint64, count int) [][]int64 {
	p := picker{seed: seed}
	lists := make([][]int64, count)
	for i := range lists {
		lists[i] = p.keys()
	}
	return lists
}

// keys are right ones; many of them are at an end of what a key may be, or alike.
func (p *picker) keys() []int64 {
	keys := make([]int64, p.from(1, 16))
	for i := range keys {
		keys[i] = p.key()
	}
	return keys
}

func (p *picker) key() int64 {
	switch p.from(0, 5) {
	case 0:
		return 1
	case 1:
		return maxKey
	case 2:
		return p.from(1, 9)
	}
	return p.from(1, maxKey)
}

// Every round of every node, and those just ahead of them and just behind them.
func TestSealsOfAllRoundsAndNodes(t *testing.T) {
	for _, keys := range append(manyKeys(901, 6), fourKeys(), []int64{1}, keysAll(16, maxKey), keysAll(16, 1)) {
		for round := int64(-2); round <= maxRounds+2; round++ {
			for node := int64(-1); node <= 16; node++ {
				checkSeal(t, keys, round, node)
			}
		}
	}
}

// Of the same key each round has a tag of its own, and so has each node.
func TestSealsOfOneKeyDiffer(t *testing.T) {
	for _, key := range []int64{1, 44, maxKey} {
		met := map[int64]impl.Seal{}
		for round := int64(1); round <= maxRounds; round++ {
			for node := range int64(16) {
				s, is := impl.SealOf(keysAll(16, key), round, node)
				if other, twice := met[s.Tag]; !is || twice {
					t.Fatalf("of the key %d %+v, %v has the tag of %+v", key, s, is, other)
				}
				met[s.Tag] = s
			}
		}
	}
}

// otherTags are all near a tag, all with another bit, all some times M away, and those at the edges; the tag itself not.
func otherTags(tag int64) []int64 {
	list := append(edgeNumbers(), 0, 1, -1, tagEnd-1, tagEnd, tagEnd+1, -tag, ^tag, maxKey, maxRounds)
	for by := int64(1); by <= 1000; by++ {
		list = append(list, tag+by, tag-by, tag+by*tagEnd, tag-by*tagEnd, tag<<(by%64), tag>>(by%64))
	}
	for bit := range 64 {
		list = append(list, tag^1<<bit, 1<<bit, 1<<bit-1)
	}
	list = append(list, numbersFrom(uint64(tag), 500)...)
	return slices.DeleteFunc(list, func(n int64) bool { return n == tag })
}

// P9, its first half: each other tag makes of a seal none.
func TestSealWithAnotherTagIsNone(t *testing.T) {
	p := picker{seed: 907}
	lists := append(manyKeys(911, 60), fourKeys(), []int64{770004548}, []int64{1}, []int64{maxKey}, keysAll(16, 1), keysAll(16, maxKey))
	for _, keys := range lists {
		last := int64(len(keys)) - 1
		for _, at := range [][2]int64{{1, 0}, {1, last}, {maxRounds, 0}, {maxRounds, last}, {p.from(1, maxRounds), p.from(0, last)}} {
			s, is := impl.SealOf(keys, at[0], at[1])
			if !is || !impl.SealRight(keys, s) {
				t.Fatalf("%v: %+v, %v is not right", keys, s, is)
			}
			for _, tag := range otherTags(s.Tag) {
				checkRight(t, keys, seal(s.Round, s.Node, tag), false)
			}
		}
	}
}

// P9, its second half: of many tags that follow one another, a right one among them, one alone is right.
func TestOneTagAloneIsRight(t *testing.T) {
	for _, c := range []struct {
		keys        []int64
		round, node int64
		from        int64
	}{
		{fourKeys(), 2, 0, 0},
		{fourKeys(), 1, 2, 109984760 - 2000000},
		{fourKeys(), 1, 1, 1782180888 - 3999999},
		{[]int64{770004548}, 1, 0, -2000000},
		{[]int64{5, 924492965}, 1, 1, tagEnd - 2000000},
		{keysAll(16, maxKey), maxRounds, 15, 1667330478},
	} {
		right := 0
		for tag := c.from; tag < c.from+6000000; tag++ {
			if impl.SealRight(c.keys, seal(c.round, c.node, tag)) {
				right++
			}
		}
		if right != 1 {
			t.Errorf("%v: of round %d and node %d %d tags are right", c.keys, c.round, c.node, right)
		}
	}
}

// P9 once more: of the tags of all rounds, of all nodes and of other keys just those are right for a round and a node that are its own.
func TestTagsOfOthersAreNone(t *testing.T) {
	for _, keys := range append(manyKeys(919, 12), fourKeys(), keysAll(16, 3)) {
		for _, round := range []int64{1, 2, 500, maxRounds} {
			for node := range keys {
				own, _ := impl.SealOf(keys, round, int64(node))
				for other := int64(1); other <= maxRounds; other++ {
					for its := range keys {
						tag := tagWant(keys[its], other, int64(its))
						checkRight(t, keys, seal(round, int64(node), tag), tag == own.Tag)
					}
				}
			}
		}
	}
}

// A seal that is put to another round is none there, for each two rounds.
func TestSealPutToAnotherRound(t *testing.T) {
	for _, keys := range [][]int64{fourKeys(), {1}, {maxKey}} {
		node := int64(len(keys)) - 1
		for round := int64(1); round <= maxRounds; round++ {
			s, _ := impl.SealOf(keys, round, node)
			for other := int64(0); other <= maxRounds+1; other++ {
				checkRight(t, keys, seal(other, node, s.Tag), other == round)
			}
		}
	}
}

// With the same key, too, a seal is of its node alone.
func TestSealPutToAnotherNode(t *testing.T) {
	for _, keys := range [][]int64{fourKeys(), upTo(16), keysAll(16, 1), keysAll(16, maxKey)} {
		for round := int64(1); round <= maxRounds; round++ {
			for node := range keys {
				s, _ := impl.SealOf(keys, round, int64(node))
				for other := int64(-1); other <= int64(len(keys)); other++ {
					checkRight(t, keys, seal(round, other, s.Tag), other == int64(node))
				}
			}
		}
	}
}

// Two nodes whose keys make one tag of a round: the tag is right for both, since it is SealOf for both, and in no other round.
func TestTwoNodesWithOneTag(t *testing.T) {
	for _, c := range []struct{ first, second, node int64 }{
		{500000000, 18960329, 1}, {maxKey, 518960329, 1}, {999999999, 518960328, 1}, {maxKey, 226855876, 15},
	} {
		keys := keysAll(16, 8)
		keys[0], keys[c.node] = c.first, c.second
		for _, round := range []int64{1, 2, maxRounds} {
			a, _ := impl.SealOf(keys, round, 0)
			b, _ := impl.SealOf(keys, round, c.node)
			if a.Tag != b.Tag || a.Node != 0 || b.Node != c.node {
				t.Fatalf("%v: %+v and %+v", keys, a, b)
			}
			checkTag(t, keys, round, 0, b.Tag)
			checkTag(t, keys, round, c.node, a.Tag)
			checkRight(t, keys, seal(round, 2, a.Tag), false)
			checkRight(t, keys, seal(round+1, 0, a.Tag), false)
		}
	}
}

// With another key of its node a seal is none; whatever the keys of the others, so long as they are right, it stays.
func TestSealPutToOtherKeys(t *testing.T) {
	p := picker{seed: 929}
	for _, keys := range manyKeys(937, 400) {
		node, round := p.from(0, int64(len(keys))-1), p.from(1, maxRounds)
		s, _ := impl.SealOf(keys, round, node)
		for _, key := range []int64{1, maxKey, keys[node] - 1, keys[node] + 1, p.key(), p.key(), 0, -keys[node], keys[node] + tagEnd} {
			others := slices.Clone(keys)
			others[node] = key
			checkRight(t, others, s, key == keys[node])
		}
		others := p.keys()
		for len(others) <= int(node) {
			others = p.keys()
		}
		others[node] = keys[node]
		checkRight(t, others, s, true)
		checkRight(t, keys[:node+1], s, true)
		checkRight(t, keys[:node], s, false)
		others[p.from(0, int64(len(others))-1)] = 0
		checkRight(t, others, s, false)
	}
}

// The furthest numbers in every number: one alone, two, all three; in the keys, too.
func TestSealsOfFurthestNumbers(t *testing.T) {
	furthest := []int64{math.MinInt64, math.MinInt64 + 1, -1, 0, 1, math.MaxInt64 - 1, math.MaxInt64}
	for _, keys := range [][]int64{fourKeys(), {1}, keysAll(16, maxKey), {math.MinInt64}, {5, math.MaxInt64}, {math.MaxInt64, math.MinInt64}, nil} {
		for _, a := range furthest {
			checkSeal(t, keys, a, 0)
			checkSeal(t, keys, 1, a)
			checkRight(t, keys, seal(1, 0, a), false)
			for _, b := range furthest {
				checkSeal(t, keys, a, b)
				checkRight(t, keys, seal(a, 0, b), false)
				checkRight(t, keys, seal(1, a, b), false)
				for _, c := range furthest {
					checkRight(t, keys, seal(a, b, c), false)
				}
			}
		}
	}
}

// A seal with nothing in it is right for no keys, not even where none could be made.
func TestZeroSealIsNone(t *testing.T) {
	for _, keys := range append(manyKeys(941, 50), nil, []int64{}, []int64{0}, keysAll(17, 1), fourKeys()) {
		checkRight(t, keys, impl.Seal{}, false)
		checkRight(t, keys, seal(0, 0, tagWant(11, 0, 0)), false)
		checkRight(t, keys, seal(1, 0, 0), false)
	}
}

func TestSealsOfAllSizes(t *testing.T) {
	p := picker{seed: 947}
	for i, keys := range manyKeys(953, 3000) {
		checkSeal(t, keys, p.from(1, maxRounds), p.from(0, int64(len(keys))-1))
		for _, n := range numbersFrom(uint64(i), 4) {
			checkSeal(t, keys, n, p.from(0, 15))
			checkSeal(t, keys, p.from(1, maxRounds), n)
			spoilt := slices.Clone(keys)
			spoilt[p.from(0, int64(len(keys))-1)] = n
			checkSeal(t, spoilt, p.from(1, maxRounds), p.from(0, int64(len(keys))-1))
		}
	}
}

// P19: no function writes into the keys, ahead of them or behind them, and asked again each answers the same.
func TestKeysStay(t *testing.T) {
	for _, keys := range append(manyKeys(967, 40), nil, []int64{}, []int64{0}, []int64{4, maxKey + 1}, keysAll(17, 6), upTo(16)) {
		room, held := inRoom(keys)
		before := slices.Clone(room)
		for _, round := range []int64{0, 1, maxRounds, maxRounds + 1} {
			for node := int64(-1); node <= int64(len(keys)); node++ {
				checkSeal(t, held, round, node)
				checkSeal(t, held, round, node)
			}
		}
		if !slices.Equal(room, before) {
			t.Fatalf("%v became %v", before, room)
		}
	}
}

// Nothing is kept from call to call: what was sealed with keys that changed since is held against what they are now.
func TestNoKeysAreKept(t *testing.T) {
	keys := fourKeys()
	s, _ := impl.SealOf(keys, 5, 2)
	checkRight(t, keys, s, true)
	keys[2] = 34
	checkRight(t, keys, s, false)
	checkTag(t, keys, 5, 2, tagWant(34, 5, 2))
	keys[2] = 33
	checkRight(t, keys, s, true)
}
