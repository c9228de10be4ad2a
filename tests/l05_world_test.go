package tests

import (
	"math"
	"slices"
	"testing"

	"loop.example/g00708/impl"
)

const (
	maxOff   = 1000000000000000
	maxTurns = 1000000
)

// Kinds by the numbers that the document gives them, and short, since many stand in a row.
const (
	up   = 0
	down = 1
	lies = 2
)

// meshOf has as many nodes and liars as told, and is right where these are.
func meshOf(nodes int64, liars int64) impl.Config { return config(nodes, liars, 5, 3, 1000, 10) }

// world takes the fields in the order in which the document names them.
func world(c impl.Config, kinds []int64, offs []int64, turns int64) impl.World {
	return impl.World{Config: c, Kinds: kinds, Offs: offs, Turns: turns}
}

// plainWorld is right and new memory at every call: 7 nodes, of which the second is down and the sixth lies.
func plainWorld() impl.World {
	return world(meshOf(7, 2), []int64{up, down, up, up, up, lies, up}, []int64{5, -3, 9, 0, -20, 70, 4}, 6)
}

func cloneWorld(w impl.World) impl.World {
	return world(w.Config, slices.Clone(w.Kinds), slices.Clone(w.Offs), w.Turns)
}

// sameWorld takes nil and an empty list as one value.
func sameWorld(a impl.World, b impl.World) bool {
	return a.Config == b.Config && slices.Equal(a.Kinds, b.Kinds) && slices.Equal(a.Offs, b.Offs) && a.Turns == b.Turns
}

func kindsRight(w impl.World) bool {
	bad := int64(0)
	for _, kind := range w.Kinds {
		switch kind {
		case up:
		case down, lies:
			bad++
		default:
			return false
		}
	}
	return bad <= w.Config.Liars
}

func worldWant(w impl.World) bool {
	if codeWant(w.Config) != 0 || int64(len(w.Kinds)) != w.Config.Nodes || int64(len(w.Offs)) != w.Config.Nodes {
		return false
	}
	for _, off := range w.Offs {
		if off <= -maxOff-1 || off >= maxOff+1 {
			return false
		}
	}
	return kindsRight(w) && w.Turns >= 0 && w.Turns < maxTurns+1
}

// upWant goes from the last node to the first one.
func upWant(w impl.World) (nodes []int64, offs []int64) {
	if !worldWant(w) {
		return nil, nil
	}
	for node := len(w.Kinds) - 1; node >= 0; node-- {
		if w.Kinds[node] != down && w.Kinds[node] != lies {
			nodes = append([]int64{int64(node)}, nodes...)
			offs = append([]int64{w.Offs[node]}, offs...)
		}
	}
	return nodes, offs
}

// checkUp holds what is told of those that are up against what is wanted; none are wanted of what is no world.
func checkUp(t *testing.T, w impl.World, nodes []int64, offs []int64) {
	t.Helper()
	if got := impl.UpIn(w); !slices.Equal(got, nodes) {
		t.Errorf("UpIn(%+v) = %v, want %v", w, got, nodes)
	}
	if got := impl.OffsOf(w); !slices.Equal(got, offs) {
		t.Errorf("OffsOf(%+v) = %v, want %v", w, got, offs)
	}
	got, is := impl.SpanOf(w)
	if len(offs) == 0 {
		checkNoSpan(t, got, is, "SpanOf", w)
		return
	}
	sorted := sortedByCounting(offs)
	checkSpan(t, got, is, span(sorted[0], sorted[len(sorted)-1]), "SpanOf", w)
}

// checkWorld holds every function of the chapter that takes a world against a reckoning of the tests' own.
func checkWorld(t *testing.T, w impl.World) {
	t.Helper()
	if got, want := impl.WorldOk(w), worldWant(w); got != want {
		t.Errorf("WorldOk(%+v) = %v", w, got)
	}
	nodes, offs := upWant(w)
	checkUp(t, w, nodes, offs)
}

// checkOk also says, beside the reckoning, what the answer must be.
func checkOk(t *testing.T, w impl.World, want bool) {
	t.Helper()
	if got := impl.WorldOk(w); got != want {
		t.Errorf("WorldOk(%+v) = %v", w, got)
	}
	checkWorld(t, w)
}

// newWant is P5's world: whoever does not lie is up.
func newWant(c impl.Config, offs []int64, liars []bool) (impl.World, bool) {
	w := world(c, nil, offs, 0)
	for _, liar := range liars {
		kind := int64(up)
		if liar {
			kind = lies
		}
		w.Kinds = append(w.Kinds, kind)
	}
	if !worldWant(w) {
		return impl.World{}, false
	}
	return w, true
}

func checkNewWorld(t *testing.T, c impl.Config, offs []int64, liars []bool) {
	t.Helper()
	got, is := impl.NewWorld(c, offs, liars)
	want, wantIs := newWant(c, offs, liars)
	if is != wantIs || !sameWorld(got, want) {
		t.Errorf("NewWorld(%+v, %v, %v) = %+v, %v, want %+v, %v", c, offs, liars, got, is, want, wantIs)
	}
	checkOk(t, got, is)
}

// checkNew also says, beside the reckoning, whether there is one.
func checkNew(t *testing.T, c impl.Config, offs []int64, liars []bool, want bool) {
	t.Helper()
	if got, is := impl.NewWorld(c, offs, liars); is != want {
		t.Errorf("NewWorld(%+v, %v, %v) = %+v, %v", c, offs, liars, got, is)
	}
	checkNewWorld(t, c, offs, liars)
}

// liarsOf has one flag of each node, set where its bit is set.
func liarsOf(nodes int64, set int) []bool {
	list := make([]bool, nodes)
	for node := range list {
		list[node] = set>>node&1 == 1
	}
	return list
}

func TestWorldLimits(t *testing.T) {
	if impl.MaxOff != maxOff || impl.MaxTurns != maxTurns {
		t.Error(int64(impl.MaxOff), impl.MaxTurns)
	}
	if impl.NdUp != 0 || impl.NdDown != 1 || impl.NdLies != 2 {
		t.Error(impl.NdUp, impl.NdDown, impl.NdLies)
	}
}

// A world's config is a part of it, and its fields are the world's own.
func TestWorldHasTheFieldsOfItsConfig(t *testing.T) {
	w := plainWorld()
	if w.Nodes != 7 || w.Liars != 2 || w.Drift != 5 || w.Err != 3 || w.Period != 1000 || w.Slew != 10 {
		t.Errorf("%+v", w)
	}
	w.Liars = 1
	if w.Config != meshOf(7, 1) {
		t.Errorf("%+v", w.Config)
	}
	checkOk(t, w, false)
}

func TestOrdinaryWorlds(t *testing.T) {
	for _, c := range []struct {
		w           impl.World
		nodes, offs []int64
	}{
		{plainWorld(), []int64{0, 2, 3, 4, 6}, []int64{5, 9, 0, -20, 4}},
		{world(meshOf(1, 0), []int64{up}, []int64{-8}, 0), []int64{0}, []int64{-8}},
		{world(meshOf(2, 0), []int64{up, up}, []int64{7, 7}, 1), []int64{0, 1}, []int64{7, 7}},
		{world(meshOf(4, 1), []int64{up, up, up, up}, []int64{5, -3, 9, 0}, 0), []int64{0, 1, 2, 3}, []int64{5, -3, 9, 0}},
		// One that is not up, first, in the middle and last, and furthest off of all.
		{world(meshOf(4, 1), []int64{down, up, up, up}, []int64{-50, -3, 9, 0}, 0), []int64{1, 2, 3}, []int64{-3, 9, 0}},
		{world(meshOf(4, 1), []int64{lies, up, up, up}, []int64{50, -3, 9, 0}, 0), []int64{1, 2, 3}, []int64{-3, 9, 0}},
		{world(meshOf(4, 1), []int64{up, down, up, up}, []int64{5, -30, 9, 0}, 0), []int64{0, 2, 3}, []int64{5, 9, 0}},
		{world(meshOf(4, 1), []int64{up, up, lies, up}, []int64{5, -3, 90, 0}, 0), []int64{0, 1, 3}, []int64{5, -3, 0}},
		{world(meshOf(4, 1), []int64{up, up, up, down}, []int64{5, -3, 9, 99}, 0), []int64{0, 1, 2}, []int64{5, -3, 9}},
		{world(meshOf(4, 1), []int64{up, up, up, lies}, []int64{5, -3, 9, -99}, 0), []int64{0, 1, 2}, []int64{5, -3, 9}},
		{world(meshOf(7, 2), []int64{down, up, up, up, up, up, lies}, []int64{1, 2, 3, 4, 5, 6, 7}, maxTurns), []int64{1, 2, 3, 4, 5}, []int64{2, 3, 4, 5, 6}},
		{world(meshOf(7, 2), []int64{lies, lies, up, up, up, up, up}, []int64{7, 6, 5, 4, 3, 2, 1}, 3), []int64{2, 3, 4, 5, 6}, []int64{5, 4, 3, 2, 1}},
		{world(meshOf(7, 2), []int64{up, up, up, up, up, down, down}, []int64{maxOff, -maxOff, 0, 0, 0, 0, 0}, 3), []int64{0, 1, 2, 3, 4}, []int64{maxOff, -maxOff, 0, 0, 0}},
	} {
		checkOk(t, c.w, true)
		checkUp(t, c.w, c.nodes, c.offs)
	}
}

// The span is of those that are up alone, told by numbers of its own.
func TestSpanOfWorlds(t *testing.T) {
	w := plainWorld()
	got, is := impl.SpanOf(w)
	checkSpan(t, got, is, span(-20, 9), "SpanOf", w)
	w.Kinds[1], w.Kinds[4] = up, down
	got, is = impl.SpanOf(w)
	checkSpan(t, got, is, span(-3, 9), "SpanOf", w)
	one := world(meshOf(1, 0), []int64{up}, []int64{-8}, 0)
	got, is = impl.SpanOf(one)
	checkSpan(t, got, is, span(-8, -8), "SpanOf", one)
	wide := world(meshOf(3, 0), []int64{up, up, up}, []int64{maxOff, 0, -maxOff}, 0)
	got, is = impl.SpanOf(wide)
	checkSpan(t, got, is, span(-maxOff, maxOff), "SpanOf", wide)
}

// Whatever is wrong with the config, by each code and by all of them at once, there is no world of it.
func TestWorldsOfWrongConfigs(t *testing.T) {
	for set := range 16 {
		var codes []int64
		for code := int64(1); code <= 4; code++ {
			if set>>(code-1)&1 == 1 {
				codes = append(codes, code)
			}
		}
		withFaults(meshOf(7, 1), codes, func(c impl.Config) {
			offs := []int64{5, -3, 9, 0, -20, 70, 4}
			checkOk(t, world(c, make([]int64, 7), offs, 0), set == 0)
			checkNew(t, c, offs, make([]bool, 7), set == 0)
		})
	}
}

// A count of nodes that is out of range is refused with as many kinds and offs, too.
func TestWorldsOfNoNodesAndTooMany(t *testing.T) {
	for _, nodes := range []int64{0, 17, 18} {
		checkOk(t, world(meshOf(nodes, 0), make([]int64, nodes), make([]int64, nodes), 0), false)
		checkNew(t, meshOf(nodes, 0), make([]int64, nodes), make([]bool, nodes), false)
	}
	checkOk(t, impl.World{}, false)
	checkNew(t, impl.Config{}, nil, nil, false)
}

// Of every number of nodes: as many kinds and offs, one less and one more, and none.
func TestWorldsOfOtherLengths(t *testing.T) {
	for nodes := int64(1); nodes <= 16; nodes++ {
		counts := []int64{nodes, nodes - 1, nodes + 1, 0, 1, 16, 17, 32, 1000}
		for _, kinds := range counts {
			for _, offs := range counts {
				want := kinds == nodes && offs == nodes
				checkOk(t, world(meshOf(nodes, 0), make([]int64, kinds), make([]int64, offs), 0), want)
				checkNew(t, meshOf(nodes, 0), make([]int64, offs), make([]bool, kinds), want)
			}
			checkOk(t, world(meshOf(nodes, 0), make([]int64, kinds), nil, 0), false)
			checkOk(t, world(meshOf(nodes, 0), nil, make([]int64, kinds), 0), false)
			checkNew(t, meshOf(nodes, 0), nil, make([]bool, kinds), false)
			checkNew(t, meshOf(nodes, 0), make([]int64, kinds), nil, false)
		}
		checkOk(t, world(meshOf(nodes, 0), nil, nil, 0), false)
		checkNew(t, meshOf(nodes, 0), nil, nil, false)
	}
}

// What is one too many is refused though there is room for it, and spare room counts for nothing.
func TestSpareRoomIsNoNode(t *testing.T) {
	room := make([]int64, 9)
	checkOk(t, world(meshOf(7, 2), room[:7], room[:7], 0), true)
	checkOk(t, world(meshOf(7, 2), room[:6], room[:7], 0), false)
	checkOk(t, world(meshOf(7, 2), room[:7], room[:6], 0), false)
	checkNew(t, meshOf(7, 2), room[:6], make([]bool, 7, 9), false)
	checkNew(t, meshOf(7, 2), room[:7], make([]bool, 6, 9), false)
}

func TestKinds(t *testing.T) {
	for _, k := range []struct {
		kind int64
		want bool
	}{
		{0, true}, {1, true}, {2, true},
		{-1, false}, {3, false}, {4, false}, {-2, false}, {1 << 32, false}, {1<<32 + 1, false},
		{math.MinInt64, false}, {math.MinInt64 + 2, false}, {math.MaxInt64, false},
	} {
		for nodes := int64(4); nodes <= 16; nodes++ {
			for at := range nodes {
				w := world(meshOf(nodes, 1), make([]int64, nodes), upTo(int(nodes)), 0)
				w.Kinds[at] = k.kind
				checkOk(t, w, k.want)
			}
		}
	}
	// Where Liars is far off, a kind that is none is still none.
	for _, kind := range []int64{-1, 3} {
		checkOk(t, world(meshOf(16, 5), append(make([]int64, 15), kind), make([]int64, 16), 0), false)
	}
}

func TestOffs(t *testing.T) {
	for _, o := range []struct {
		off  int64
		want bool
	}{
		{0, true}, {-1, true}, {maxOff - 1, true}, {maxOff, true}, {-maxOff + 1, true}, {-maxOff, true},
		{maxOff + 1, false}, {-maxOff - 1, false}, {maxOff + 2, false}, {maxNs, false}, {-maxNs, false},
		{math.MinInt64, false}, {math.MinInt64 + 1, false}, {math.MaxInt64, false},
	} {
		for at := range 7 {
			// Of a node that is down or lies the off must be right, too.
			w := plainWorld()
			w.Offs[at] = o.off
			checkOk(t, w, o.want)
			for set := range 3 {
				checkNew(t, w.Config, w.Offs, liarsOf(7, set<<at&127), o.want)
			}
		}
		checkOk(t, world(meshOf(1, 0), []int64{up}, []int64{o.off}, 0), o.want)
		checkNew(t, meshOf(1, 0), []int64{o.off}, []bool{false}, o.want)
		checkNew(t, meshOf(16, 5), slices.Repeat([]int64{o.off}, 16), make([]bool, 16), o.want)
	}
}

func TestWorldTurns(t *testing.T) {
	for _, n := range []struct {
		turns int64
		want  bool
	}{
		{0, true}, {1, true}, {maxTurns - 1, true}, {maxTurns, true},
		{-1, false}, {-2, false}, {-maxTurns, false}, {maxTurns + 1, false}, {maxTurns + 2, false}, {1 << 32, false},
		{math.MinInt64, false}, {math.MinInt64 + 1, false}, {math.MaxInt64, false},
	} {
		w := plainWorld()
		w.Turns = n.turns
		checkOk(t, w, n.want)
		checkOk(t, world(meshOf(1, 0), []int64{up}, []int64{0}, n.turns), n.want)
	}
}

// Of every mesh: just Liars that are down, that lie, or some of each, from either end, and then one more.
func TestHowManyMayBeDownOrLie(t *testing.T) {
	for nodes := int64(1); nodes <= 16; nodes++ {
		for liars := int64(0); 3*liars < nodes; liars++ {
			for fallen := int64(0); fallen <= nodes; fallen++ {
				for lying := int64(0); fallen+lying <= nodes; lying++ {
					kinds := slices.Concat(slices.Repeat([]int64{down}, int(fallen)), slices.Repeat([]int64{lies}, int(lying)), make([]int64, nodes-fallen-lying))
					want := fallen+lying <= liars
					checkOk(t, world(meshOf(nodes, liars), kinds, upTo(int(nodes)), 0), want)
					checkOk(t, world(meshOf(nodes, liars), turnedRound(kinds), upTo(int(nodes)), 0), want)
				}
			}
		}
	}
}

// All ways in which up to 7 nodes can be up, be down or lie, with every number of liars.
func TestAllKindsOfSmallWorlds(t *testing.T) {
	for nodes, all := int64(1), 3; nodes <= 7; nodes, all = nodes+1, all*3 {
		for which := range all {
			kinds := make([]int64, nodes)
			for i, rest := 0, which; i < len(kinds); i, rest = i+1, rest/3 {
				kinds[i] = int64(rest % 3)
			}
			for liars := int64(-1); liars <= nodes; liars++ {
				checkWorld(t, world(meshOf(nodes, liars), kinds, turnedRound(upTo(int(nodes))), 2))
			}
		}
	}
}

func TestNewWorld(t *testing.T) {
	for _, c := range []struct {
		c     impl.Config
		offs  []int64
		liars []bool
		kinds []int64
	}{
		{meshOf(4, 1), []int64{5, -3, 9, 0}, []bool{false, false, true, false}, []int64{up, up, lies, up}},
		{meshOf(4, 1), []int64{5, -3, 9, 0}, []bool{false, false, false, false}, []int64{up, up, up, up}},
		{meshOf(4, 1), []int64{5, -3, 9, 0}, []bool{true, false, false, false}, []int64{lies, up, up, up}},
		{meshOf(4, 1), []int64{maxOff, -maxOff, 9, 0}, []bool{false, false, false, true}, []int64{up, up, up, lies}},
		{meshOf(1, 0), []int64{-8}, []bool{false}, []int64{up}},
		{meshOf(7, 2), upTo(7), []bool{true, false, false, true, false, false, false}, []int64{lies, up, up, lies, up, up, up}},
		{meshOf(7, 2), upTo(7), []bool{false, false, false, false, false, true, true}, []int64{up, up, up, up, up, lies, lies}},
	} {
		got, is := impl.NewWorld(c.c, c.offs, c.liars)
		if want := world(c.c, c.kinds, c.offs, 0); !is || !sameWorld(got, want) {
			t.Errorf("NewWorld(%+v, %v, %v) = %+v, %v, want %+v", c.c, c.offs, c.liars, got, is, want)
		}
		checkNewWorld(t, c.c, c.offs, c.liars)
	}
}

// Of every mesh: none that lies, just Liars, one more and all, first or last.
func TestHowManyMayLieInNewWorlds(t *testing.T) {
	for nodes := int64(1); nodes <= 16; nodes++ {
		for liars := int64(0); 3*liars < nodes; liars++ {
			for _, count := range []int64{0, liars - 1, liars, liars + 1, nodes} {
				if count < 0 {
					continue
				}
				list := liarsOf(nodes, 1<<count-1)
				checkNew(t, meshOf(nodes, liars), upTo(int(nodes)), list, count <= liars)
				slices.Reverse(list)
				checkNew(t, meshOf(nodes, liars), upTo(int(nodes)), list, count <= liars)
			}
		}
	}
}

// P5, in its own words, whoever lies: a new world is right and has no one down, and all that do not lie are up.
func TestNewWorldHasNoOneDown(t *testing.T) {
	made := 0
	for nodes := int64(1); nodes <= 16; nodes++ {
		liars := (nodes - 1) / 3
		offs := numbersFrom(15+uint64(nodes), int(nodes))
		for i := range offs {
			offs[i] %= maxOff + 1
		}
		for set := range 1 << nodes {
			w, is := impl.NewWorld(meshOf(nodes, liars), offs, liarsOf(nodes, set))
			if is != (bitsIn(set) <= liars) {
				t.Fatalf("%d nodes, %b lie: %v", nodes, set, is)
			}
			if !is {
				continue
			}
			made++
			if !impl.WorldOk(w) || w.Turns != 0 || slices.Contains(w.Kinds, impl.NdDown) {
				t.Fatalf("%d nodes, %b lie: %+v", nodes, set, w)
			}
			nodesUp := impl.UpIn(w)
			if int64(len(nodesUp))+bitsIn(set) != nodes {
				t.Fatalf("%d nodes, %b lie: up are %v", nodes, set, nodesUp)
			}
			for _, node := range nodesUp {
				if set>>node&1 == 1 {
					t.Fatalf("%d nodes, %b lie: up are %v", nodes, set, nodesUp)
				}
			}
		}
	}
	if made < 10000 {
		t.Errorf("only %d worlds were made", made)
	}
}

// The least and the greatest int64 in every number of a world, one alone and all at once.
func TestWorldsOfFurthestNumbers(t *testing.T) {
	for _, n := range []int64{math.MinInt64, math.MinInt64 + 1, math.MaxInt64 - 1, math.MaxInt64} {
		for field := range 6 {
			w := plainWorld()
			*fieldsOf(&w.Config)[field] = n
			checkOk(t, w, false)
			checkNew(t, w.Config, w.Offs, make([]bool, 7), false)
		}
		for node := range 7 {
			w := plainWorld()
			w.Kinds[node] = n
			checkOk(t, w, false)
			w = plainWorld()
			w.Offs[node] = n
			checkOk(t, w, false)
			checkNew(t, w.Config, w.Offs, make([]bool, 7), false)
		}
		w := plainWorld()
		w.Turns = n
		checkOk(t, w, false)
		for _, list := range [][]int64{nil, {}, {n}, slices.Repeat([]int64{n}, 7), slices.Repeat([]int64{n}, 16)} {
			checkOk(t, world(config(n, n, n, n, n, n), list, list, n), false)
			checkOk(t, world(meshOf(7, 2), list, list, 0), false)
			checkNew(t, config(n, n, n, n, n, n), list, make([]bool, len(list)), false)
		}
	}
}

func TestWorldsOfAllSizes(t *testing.T) {
	numbers := numbersFrom(40, 40*5000)
	right := 0
	for i := 0; i+40 <= len(numbers); i += 40 {
		n := numbers[i:]
		nodes := 1 + n[0]&15
		// Most kinds are up, so that not too many are down or lie.
		kinds := slices.Clone(n[1 : 1+nodes])
		for j := range kinds {
			kinds[j] = max(0, kinds[j]&15-13)
		}
		offs := slices.Clone(n[17 : 17+nodes])
		checkWorld(t, world(meshOf(nodes, n[33]&3), kinds, offs, n[34]))
		for j := range offs {
			offs[j] %= maxOff + 1
		}
		w := world(meshOf(nodes, (nodes-1)/3), kinds, offs, n[34]&0xffff)
		checkWorld(t, w)
		checkNewWorld(t, w.Config, offs, liarsOf(nodes, int(n[35]&n[36])))
		if worldWant(w) {
			right++
		}
		w.Kinds = n[1 : 1+nodes]
		checkWorld(t, w)
	}
	if right < 1000 {
		t.Errorf("only %d worlds were right", right)
	}
}

// memoryWorlds are right and wrong ones, for every reason at once or alone.
func memoryWorlds() []impl.World {
	list := []impl.World{plainWorld(), plainWorld(), plainWorld(), plainWorld(), plainWorld(), {}}
	list[1].Kinds[0] = down
	list[2].Offs[6] = maxOff + 1
	list[3].Turns = -1
	list[4].Nodes = 8
	return append(list,
		world(meshOf(1, 0), []int64{up}, []int64{-8}, 0),
		world(meshOf(16, 5), make([]int64, 16), turnedRound(upTo(16)), 0),
		world(meshOf(16, 5), make([]int64, 17), make([]int64, 3), 0))
}

// inRoom puts a list between others, so that what is written ahead of it or behind it is seen.
func inRoom(list []int64) (room []int64, held []int64) { return roomAround(list, 31, -99, 99, 50) }

// roomAround is inRoom for any list.
func roomAround[T any](list []T, ahead T, behind ...T) (room []T, held []T) {
	room = slices.Concat([]T{ahead}, list, behind)
	return room, room[1 : 1+len(list)]
}

// fillRoom writes over a list up to the end of its own room.
func fillRoom(list []int64) { fillWith(list, 12345) }

// fillWith is fillRoom for any list.
func fillWith[T any](list []T, with T) {
	list = list[:cap(list)]
	for i := range list {
		list[i] = with
	}
}

// worldCalls are the functions that take a world; those that answer no list answer nil.
func worldCalls() []func(impl.World) []int64 {
	return []func(impl.World) []int64{
		func(w impl.World) []int64 { impl.WorldOk(w); return nil },
		impl.UpIn,
		impl.OffsOf,
		func(w impl.World) []int64 { impl.SpanOf(w); return nil },
	}
}

// P19: neither the lists nor the room ahead of them and behind them are written into,
// not even when the answer is written into, up to the end of its own room.
func TestWorldsStay(t *testing.T) {
	for _, w := range memoryWorlds() {
		kindsRoom, kinds := inRoom(w.Kinds)
		offsRoom, offs := inRoom(w.Offs)
		kindsBefore, offsBefore := slices.Clone(kindsRoom), slices.Clone(offsRoom)
		given := world(w.Config, kinds, offs, w.Turns)
		for which, call := range worldCalls() {
			answer := call(given)
			if !sameWorld(given, w) || !slices.Equal(kindsRoom, kindsBefore) || !slices.Equal(offsRoom, offsBefore) {
				t.Fatalf("call %d: %+v became %+v, in %v and %v", which, w, given, kindsRoom, offsRoom)
			}
			fillRoom(answer)
			if !slices.Equal(kindsRoom, kindsBefore) || !slices.Equal(offsRoom, offsBefore) {
				t.Fatalf("call %d: the answer shares memory with %+v", which, w)
			}
		}
	}
}

// Two calls with one world answer alike, and what is done to the first answer is not seen in the second.
func TestWorldsAnswerNewMemory(t *testing.T) {
	for _, w := range memoryWorlds() {
		for which, call := range worldCalls() {
			first := call(w)
			want := slices.Clone(first)
			second := call(w)
			fillRoom(first)
			if !slices.Equal(second, want) || !slices.Equal(call(w), want) {
				t.Errorf("call %d: %v, want %v", which, second, want)
			}
		}
	}
}

// A world whose two lists are one and the same is asked as any other.
func TestWorldOfOneListTwice(t *testing.T) {
	both := []int64{up, down, up, up, up, lies, up}
	w := world(meshOf(7, 2), both, both, 0)
	checkOk(t, w, true)
	checkUp(t, w, []int64{0, 2, 3, 4, 6}, make([]int64, 5))
	if !slices.Equal(both, []int64{up, down, up, up, up, lies, up}) {
		t.Error(both)
	}
}

// newCases are what NewWorld takes and what it refuses.
func newCases() []struct {
	c     impl.Config
	offs  []int64
	liars []bool
} {
	return []struct {
		c     impl.Config
		offs  []int64
		liars []bool
	}{
		{meshOf(7, 2), []int64{5, -3, 9, 0, -20, 70, 4}, liarsOf(7, 0b100010)},
		{meshOf(1, 0), []int64{maxOff}, []bool{false}},
		{meshOf(16, 5), upTo(16), liarsOf(16, 0b11111)},
		{meshOf(16, 5), upTo(16), liarsOf(16, 0b111111)},
		{meshOf(7, 2), upTo(6), liarsOf(7, 1)},
		{meshOf(7, 2), upTo(7), liarsOf(8, 1)},
		{meshOf(7, 2), []int64{5, -3, 9, 0, -20, 70, maxOff + 1}, liarsOf(7, 1)},
		{meshOf(6, 2), upTo(6), liarsOf(6, 1)},
		{impl.Config{}, nil, nil},
	}
}

// P19: what NewWorld is given stays, and so does the room around it, even when its answer is written into;
// and its two lists share no memory with each other, not even behind their ends.
func TestNewWorldIsNewMemory(t *testing.T) {
	for _, c := range newCases() {
		offsRoom, offs := inRoom(c.offs)
		offsBefore := slices.Clone(offsRoom)
		liarsRoom := slices.Concat([]bool{true}, c.liars, []bool{true, false, true})
		liarsBefore := slices.Clone(liarsRoom)
		w, is := impl.NewWorld(c.c, offs, liarsRoom[1:1+len(c.liars)])
		want := cloneWorld(w)
		fillRoom(w.Kinds)
		if !slices.Equal(w.Offs, want.Offs) {
			t.Errorf("%+v: the Kinds share memory with the Offs", want)
		}
		fillRoom(w.Offs)
		if !slices.Equal(offsRoom, offsBefore) || !slices.Equal(liarsRoom, liarsBefore) {
			t.Errorf("%v, %v became %v, %v", offsBefore, liarsBefore, offsRoom, liarsRoom)
		}
		again, againIs := impl.NewWorld(c.c, c.offs, c.liars)
		if !sameWorld(again, want) || againIs != is {
			t.Errorf("%+v, %v, then %+v, %v", want, is, again, againIs)
		}
		// The other way round: what is done to the arguments behind the call is not seen in the answer.
		made, _ := impl.NewWorld(c.c, offs, liarsRoom[1:1+len(c.liars)])
		clear(offsRoom)
		clear(liarsRoom)
		if !sameWorld(made, want) {
			t.Errorf("%+v became %+v", want, made)
		}
	}
}

// In whatever way NewWorld refuses, nothing is left in its answer.
func TestRefusedNewWorldIsZero(t *testing.T) {
	refused := 0
	for _, c := range newCases() {
		w, is := impl.NewWorld(c.c, c.offs, c.liars)
		if is {
			continue
		}
		refused++
		if w.Config != (impl.Config{}) || len(w.Kinds) != 0 || len(w.Offs) != 0 || w.Turns != 0 {
			t.Errorf("NewWorld(%+v, %v, %v) = %+v, false", c.c, c.offs, c.liars, w)
		}
	}
	if refused != 6 {
		t.Errorf("%d were refused", refused)
	}
}
