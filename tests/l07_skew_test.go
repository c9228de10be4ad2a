package tests

import (
	"math"
	"reflect"
	"slices"
	"testing"

	"loop.example/g00708/impl"
)

const maxPlay = 200

// apart is the greatest difference of any two; -1 of none, since in a right world someone is up.
func apart(offs []int64) int64 {
	most := int64(-1)
	for _, a := range offs {
		for _, b := range offs {
			most = max(most, a-b)
		}
	}
	return most
}

func skewWant(w impl.World) int64 {
	_, offs := upWant(w)
	return apart(offs)
}

func middleSkewWant(w impl.World, turn impl.Turn) int64 {
	if !turnWant(w, turn) {
		return -1
	}
	var offs []int64
	for node := range w.Kinds {
		if upThen(w, turn, node) {
			offs = append(offs, w.Offs[node]+turn.Drifts[node])
		}
	}
	return apart(offs)
}

// gapWant and mostWant are of a config that is right.
func gapWant(c impl.Config) int64 { return 2*c.Drift + 4*c.Err + 2 }

func mostWant(c impl.Config) int64 { return 4*c.Drift + 4*c.Err + 2 }

func playedWant(w impl.World, list []impl.Turn) (impl.World, int64) {
	if !worldWant(w) || len(list) >= 201 {
		return impl.World{}, -1
	}
	for done, turn := range list {
		next, is := turnedWant(w, turn)
		if !is {
			return w, int64(done)
		}
		w = next
	}
	return w, int64(len(list))
}

// checkSkew holds SkewOf and NearIn against a reckoning of the tests' own.
func checkSkew(t *testing.T, w impl.World) {
	t.Helper()
	want := skewWant(w)
	if got := impl.SkewOf(w); got != want {
		t.Fatalf("SkewOf(%+v) = %d, want %d", w, got, want)
	}
	near := worldWant(w) && want <= gapWant(w.Config)
	if got := impl.NearIn(w); got != near {
		t.Fatalf("NearIn(%+v) = %v, want %v", w, got, near)
	}
}

// checkSkewIs also says, beside the reckoning, what the answers must be.
func checkSkewIs(t *testing.T, w impl.World, skew int64, near bool) {
	t.Helper()
	if got := impl.SkewOf(w); got != skew {
		t.Fatalf("SkewOf(%+v) = %d, want %d", w, got, skew)
	}
	if got := impl.NearIn(w); got != near {
		t.Fatalf("NearIn(%+v) = %v, want %v", w, got, near)
	}
	checkSkew(t, w)
}

func checkMiddle(t *testing.T, w impl.World, turn impl.Turn) {
	t.Helper()
	if got, want := impl.MiddleSkew(w, turn), middleSkewWant(w, turn); got != want {
		t.Fatalf("MiddleSkew(%+v, %+v) = %d, want %d", w, turn, got, want)
	}
}

// checkMiddleIs also says, beside the reckoning, what the answer must be.
func checkMiddleIs(t *testing.T, w impl.World, turn impl.Turn, skew int64) {
	t.Helper()
	if got := impl.MiddleSkew(w, turn); got != skew {
		t.Fatalf("MiddleSkew(%+v, %+v) = %d, want %d", w, turn, got, skew)
	}
	checkMiddle(t, w, turn)
}

func checkPlayed(t *testing.T, w impl.World, list []impl.Turn) {
	t.Helper()
	want, done := playedWant(w, list)
	got, count := impl.Played(w, list)
	if count != done || !sameWorld(got, want) {
		t.Fatalf("Played(%+v, %+v) = %+v, %d, want %+v, %d", w, list, got, count, want, done)
	}
}

// checkPlayedIs also says, beside the reckoning, what must come of it.
func checkPlayedIs(t *testing.T, w impl.World, list []impl.Turn, want impl.World, done int64) {
	t.Helper()
	if got, count := impl.Played(w, list); count != done || !sameWorld(got, want) {
		t.Fatalf("Played(%+v, %d turns) = %+v, %d, want %+v, %d", w, len(list), got, count, want, done)
	}
	checkPlayed(t, w, list)
}

// checkNear is P7, in its own words, of a turn that is right for w.
func checkNear(t *testing.T, w impl.World, turn impl.Turn) {
	t.Helper()
	turned, is := impl.Turned(w, turn)
	if !is {
		return
	}
	var offs []int64
	for node, off := range turned.Offs {
		if upThen(w, turn, node) || turn.Rises[node] {
			offs = append(offs, off)
		}
	}
	behind, middle := impl.SkewOf(turned), impl.MiddleSkew(w, turn)
	if behind < 0 || middle < 0 || behind != apart(offs) {
		t.Fatalf("%+v, %+v: %d in the middle, %d behind, want %d", w, turn, middle, behind, apart(offs))
	}
	if 2*behind > middle+4*w.Err+2 {
		t.Fatalf("%+v, %+v: %d in the middle, %d behind", w, turn, middle, behind)
	}
	if impl.NearIn(w) && (!impl.NearIn(turned) || max(impl.SkewOf(w), middle, behind) > impl.SkewMost(w.Config)) {
		t.Fatalf("%+v, %+v: near, and then %d in the middle, %d behind", w, turn, middle, behind)
	}
}

func TestMaxPlay(t *testing.T) {
	if impl.MaxPlay != maxPlay {
		t.Error(impl.MaxPlay)
	}
}

// The GapMost of meshOf is 24.
func TestOrdinarySkews(t *testing.T) {
	others := append(slices.Repeat([]int64{lies}, 3), down, down)
	for _, c := range []struct {
		w    impl.World
		skew int64
		near bool
	}{
		{plainWorld(), 29, false},
		{world(meshOf(7, 2), []int64{up, down, up, up, down, lies, up}, []int64{5, -3, 9, 0, -20, 70, 4}, 6), -1, false},
		{world(meshOf(7, 2), []int64{up, up, up, up, down, lies, up}, []int64{5, -3, 9, 0, -20, 70, 4}, 6), 12, true},
		{world(meshOf(1, 0), []int64{up}, []int64{-8}, 0), 0, true},
		{world(meshOf(2, 0), []int64{up, up}, []int64{7, -7}, 1), 14, true},
		{world(meshOf(2, 0), []int64{up, up}, []int64{-13, 12}, 1), 25, false},
		{world(meshOf(3, 0), []int64{up, up, up}, []int64{-3, -27, -4}, 1), 24, true},
		{world(meshOf(4, 1), []int64{up, lies, up, up}, []int64{5, -300, 9, 0}, 0), 9, true},
		{world(meshOf(4, 1), []int64{down, up, up, up}, []int64{500, -3, 9, 0}, 0), 12, true},
		{world(meshOf(16, 5), slices.Concat(make([]int64, 11), others), upTo(16), 0), 10, true},
		{world(meshOf(16, 5), slices.Concat(others, make([]int64, 11)), turnedRound(upTo(16)), 0), 10, true},
		{world(meshOf(16, 0), make([]int64, 16), upTo(16), maxTurns), 15, true},
		{world(meshOf(2, 0), []int64{up, up}, []int64{maxOff, -maxOff}, 0), 2 * maxOff, false},
	} {
		checkSkewIs(t, c.w, c.skew, c.near)
	}
}

func TestOrdinaryMiddles(t *testing.T) {
	// In the middle they are at 6, 14, -5, -20 and 6; the second one rises, the sixth one lies.
	checkMiddleIs(t, plainWorld(), plainTurn(), 34)
	checkMiddleIs(t, plainWorld(), quietTurn(7), 29)

	// That there may be no turn more does not hide what its middle would be.
	last := plainWorld()
	last.Turns = maxTurns
	checkMiddleIs(t, last, plainTurn(), 34)

	two := world(meshOf(2, 0), []int64{up, up}, []int64{-7, 7}, 0)
	for _, c := range [][3]int64{{0, 0, 14}, {-5, 5, 24}, {5, -5, 4}, {5, 5, 14}, {0, -3, 11}} {
		turn := quietTurn(2)
		turn.Drifts = c[:2]
		checkMiddleIs(t, two, turn, c[2])
	}

	// 16 nodes: the first three lie, the next two are down. The ends drift nearer, so that others are the ends, at 7 and 15.
	kinds := append([]int64{lies, lies, lies, down, down}, make([]int64, 11)...)
	turn := quietTurn(16)
	turn.Drifts[5], turn.Drifts[15], turn.Drifts[0], turn.Drifts[4] = 2, -5, -5, -5
	checkMiddleIs(t, world(meshOf(16, 5), kinds, upTo(16), 3), turn, 8)
}

// Of one node alone: whatever its Off is and however it drifts, it is with itself.
func TestSkewOfOneAlone(t *testing.T) {
	for _, off := range []int64{0, 1, -8, maxOff, -maxOff} {
		for drift := int64(-5); drift <= 5; drift++ {
			w := world(meshOf(1, 0), []int64{up}, []int64{off}, 4)
			turn := quietTurn(1)
			turn.Drifts[0], turn.Errs[0][0], turn.Lies[0][0] = drift, 3, maxOff
			checkSkewIs(t, w, 0, true)
			checkMiddleIs(t, w, turn, 0)
			checkPlayed(t, w, []impl.Turn{turn, quietTurn(1), turn})
		}
	}
}

// Of every mesh: all that are up at one Off, the others far from it.
func TestSkewOfAllAtOneOff(t *testing.T) {
	for nodes := int64(1); nodes <= 16; nodes++ {
		for liars := int64(0); 3*liars < nodes; liars++ {
			for _, off := range []int64{0, -20, maxOff, -maxOff} {
				w := world(meshOf(nodes, liars), make([]int64, nodes), slices.Repeat([]int64{off}, int(nodes)), 0)
				for node := range liars {
					w.Kinds[node], w.Offs[node] = 1+node%2, -off/2+9
				}
				turn := quietTurn(nodes)
				checkSkewIs(t, w, 0, true)
				checkMiddleIs(t, w, turn, 0)
				// All drift alike, or those that are not up alone.
				turn.Drifts = slices.Repeat([]int64{-3}, int(nodes))
				checkMiddleIs(t, w, turn, 0)
				clear(turn.Drifts[liars:])
				checkMiddleIs(t, w, turn, 0)
			}
		}
	}
}

// Each node once the furthest of all: it is heard of where it is up, and else it is not.
func TestWhoCountsInSkewOf(t *testing.T) {
	for nodes := int64(4); nodes <= 16; nodes++ {
		for node := range nodes {
			for _, sign := range []int64{1, -1} {
				for _, kind := range []int64{up, down, lies} {
					w := world(meshOf(nodes, 1), make([]int64, nodes), make([]int64, nodes), 0)
					w.Kinds[node], w.Offs[node] = kind, 100*sign
					w.Offs[(node+1)%nodes], w.Offs[(node+2)%nodes] = -2*sign, 3*sign
					if kind == up {
						checkSkewIs(t, w, 102, false)
					} else {
						checkSkewIs(t, w, 5, true)
					}
				}
			}
		}
	}
}

// The middle of a turn: who falls is down there already, and who rises is down there still.
func TestWhoCountsInMiddleSkew(t *testing.T) {
	for nodes := int64(4); nodes <= 16; nodes++ {
		for node := range nodes {
			for _, c := range []struct {
				kind         int64
				falls, rises bool
				ahead, want  int64
				behind       int64
			}{
				{up, false, false, 102, 106, 5},
				{up, true, false, 102, 7, 2},
				{down, false, false, 5, 7, 2},
				{down, false, true, 5, 7, 5},
				{lies, false, false, 5, 7, 2},
			} {
				w := world(meshOf(nodes, 1), make([]int64, nodes), make([]int64, nodes), 0)
				w.Kinds[node], w.Offs[node] = c.kind, 100
				w.Offs[(node+1)%nodes], w.Offs[(node+2)%nodes] = -2, 3
				turn := quietTurn(nodes)
				turn.Falls[node], turn.Rises[node] = c.falls, c.rises
				turn.Drifts[node], turn.Drifts[(node+1)%nodes], turn.Drifts[(node+2)%nodes] = 3, -1, 1
				checkSkewIs(t, w, c.ahead, c.ahead == 5)
				checkMiddleIs(t, w, turn, c.want)
				checkNear(t, w, turn)
			}
		}
	}
}

// What is told by Errs and by Lies puts nobody right ahead of the end of the turn.
func TestMiddleSkewHearsNoGuesses(t *testing.T) {
	w := plainWorld()
	for cell := range 49 {
		turn := plainTurn()
		turn.Errs[cell/7][cell%7], turn.Lies[cell/7][cell%7] = -3, maxOff
		checkMiddleIs(t, w, turn, 34)
	}
}

// An Off may leave its range in the middle; it is counted there as it is.
func TestMiddleSkewOfFurthestOffs(t *testing.T) {
	for _, drift := range []int64{0, 1, 5, maxDrift} {
		w := world(ranged(drift, 3), []int64{up, up, up, up, up, down, lies}, []int64{maxOff, 0, -maxOff, 7, maxOff, -maxOff, maxOff}, 0)
		turn := quietTurn(7)
		turn.Drifts = []int64{drift, 0, -drift, drift, -drift, -drift, drift}
		checkSkewIs(t, w, 2*maxOff, false)
		checkMiddleIs(t, w, turn, 2*maxOff+2*drift)
		// One of them alone is out of range.
		turn.Drifts[0] = -drift
		checkMiddleIs(t, w, turn, 2*maxOff)
		// All of them are, and none is far from the others.
		for _, sign := range []int64{1, -1} {
			w.Offs = slices.Repeat([]int64{sign * maxOff}, 7)
			turn.Drifts = slices.Repeat([]int64{sign * drift}, 7)
			checkMiddleIs(t, w, turn, 0)
		}
		w.Offs = []int64{maxOff, 0, -maxOff, 7, maxOff, -maxOff, maxOff}
	}
}

// SkewOf at GapMost, one less and one more, with any two nodes the furthest ones, wherever all lie.
func TestNearAtGapMost(t *testing.T) {
	for _, c := range []impl.Config{ranged(0, 0), ranged(0, 1), ranged(1, 0), ranged(5, 3), ranged(0, maxDrift), ranged(maxDrift, 0), ranged(maxDrift, maxDrift)} {
		gap := gapWant(c)
		for low := range 7 {
			for high := range 7 {
				for _, base := range []int64{0, -gap, maxOff - gap - 1, -maxOff} {
					if low == high {
						continue
					}
					w := world(c, make([]int64, 7), slices.Repeat([]int64{base + gap/2}, 7), 0)
					w.Offs[low] = base
					for more := int64(-1); more <= 1; more++ {
						w.Offs[high] = base + gap + more
						checkSkewIs(t, w, gap+more, more <= 0)
					}
				}
			}
		}
	}
}

// Those that are down or lie don't make a near world a far one, nor a far one near.
func TestNearIsOfThoseThatAreUp(t *testing.T) {
	for _, kind := range []int64{down, lies} {
		w := world(meshOf(4, 1), []int64{up, up, kind, up}, []int64{0, 24, 0, 12}, 0)
		for _, off := range []int64{0, 12, -1, 25, maxOff, -maxOff} {
			w.Offs[2], w.Offs[1] = off, 24
			checkSkewIs(t, w, 24, true)
			w.Offs[1] = 25
			checkSkewIs(t, w, 25, false)
		}
	}
}

func TestSkewOfWrongWorlds(t *testing.T) {
	for _, fault := range worldFaults() {
		w := plainWorld()
		// All are at one Off, so that nothing but the fault could make it far.
		clear(w.Offs)
		checkSkewIs(t, w, 0, true)
		fault(&w)
		checkSkewIs(t, w, -1, false)
		for _, turn := range []impl.Turn{plainTurn(), quietTurn(7), quietTurn(6), quietTurn(8), quietTurn(0), {}} {
			checkMiddleIs(t, w, turn, -1)
			checkPlayedIs(t, w, []impl.Turn{turn}, impl.World{}, -1)
		}
		checkPlayedIs(t, w, nil, impl.World{}, -1)
		checkPlayedIs(t, w, []impl.Turn{}, impl.World{}, -1)
		checkPlayedIs(t, w, make([]impl.Turn, maxPlay+1), impl.World{}, -1)
	}
	for code := int64(1); code <= 4; code++ {
		withFaults(meshOf(7, 2), []int64{code}, func(c impl.Config) {
			w := plainWorld()
			w.Config = c
			checkSkewIs(t, w, -1, false)
			checkMiddleIs(t, w, plainTurn(), -1)
			checkPlayedIs(t, w, []impl.Turn{plainTurn()}, impl.World{}, -1)
		})
	}
}

func TestMiddleSkewOfWrongTurns(t *testing.T) {
	for _, fault := range turnFaults() {
		turn := plainTurn()
		checkMiddleIs(t, plainWorld(), turn, 34)
		fault(&turn)
		checkMiddleIs(t, plainWorld(), turn, -1)
		// Nor is there one where all are at one Off.
		w := plainWorld()
		clear(w.Offs)
		checkMiddleIs(t, w, turn, -1)
	}
	for nodes := int64(1); nodes <= 16; nodes++ {
		w := world(meshOf(nodes, (nodes-1)/3), make([]int64, nodes), upTo(int(nodes)), 0)
		checkMiddleIs(t, w, quietTurn(nodes), nodes-1)
		for _, turn := range wrongTurns(nodes) {
			checkMiddleIs(t, w, turn, -1)
			checkPlayedIs(t, w, []impl.Turn{turn, quietTurn(nodes)}, w, 0)
		}
	}
}

// wrongTurns each have one list or one row of another length, or all of them.
func wrongTurns(nodes int64) []impl.Turn {
	turns := append(turnsWithoutOne(nodes), quietTurn(nodes-1), quietTurn(nodes+1), quietTurn(2*nodes), quietTurn(0))
	for _, length := range []int64{0, nodes - 1, nodes + 1} {
		for at := range nodes {
			errs, lied := quietTurn(nodes), quietTurn(nodes)
			errs.Errs[at], lied.Lies[at] = make([]int64, length), make([]int64, length)
			turns = append(turns, errs, lied)
		}
		for list := range 5 {
			lengths := [5]int64{nodes, nodes, nodes, nodes, nodes}
			lengths[list] = length
			turns = append(turns, resized(nodes, lengths))
		}
	}
	return turns
}

// fourWorld is near, and its turns can be told by hand.
func fourWorld() impl.World {
	return world(meshOf(4, 1), []int64{up, up, up, lies}, []int64{10, 0, 6, 0}, 0)
}

// fourTurns first tell each one something else of the one that lies, and then that it is where they are.
func fourTurns(count int) []impl.Turn {
	list := []impl.Turn{quietTurn(4)}
	list[0].Lies[0][3], list[0].Lies[1][3], list[0].Lies[2][3] = 1000, -1000, 4
	for len(list) < count {
		list = append(list, quietTurn(4))
	}
	return list[:count]
}

// All of this is worked out by hand.
func TestOrdinaryPlay(t *testing.T) {
	for count, c := range []struct {
		offs []int64
		skew int64
	}{
		{[]int64{10, 0, 6, 0}, 10},
		{[]int64{8, 3, 8, 0}, 5},
		{[]int64{8, 5, 8, 0}, 3},
		{[]int64{8, 6, 8, 0}, 2},
		{[]int64{8, 7, 8, 0}, 1},
		// The half is rounded down, so they stay so.
		{[]int64{8, 7, 8, 0}, 1},
		{[]int64{8, 7, 8, 0}, 1},
	} {
		want := world(meshOf(4, 1), []int64{up, up, up, lies}, c.offs, int64(count))
		checkPlayedIs(t, fourWorld(), fourTurns(count), want, int64(count))
		checkSkewIs(t, want, c.skew, true)
	}
	want := world(meshOf(7, 2), []int64{up, up, up, up, up, lies, up}, []int64{0, 2, 2, 2, 1, 73, 0}, 7)
	checkPlayedIs(t, plainWorld(), []impl.Turn{plainTurn()}, want, 1)
	checkSkewIs(t, want, 2, true)
}

func TestPlayOfNoTurn(t *testing.T) {
	for _, w := range []impl.World{plainWorld(), fourWorld(), world(meshOf(1, 0), []int64{up}, []int64{maxOff}, maxTurns)} {
		checkPlayedIs(t, w, nil, w, 0)
		checkPlayedIs(t, w, []impl.Turn{}, w, 0)
		// Turns in the room behind the list are none of it.
		checkPlayedIs(t, w, []impl.Turn{quietTurn(w.Nodes)}[:0], w, 0)
	}
}

// steadyTurns are right for plainWorld, one after the other, and each drifts by something else.
func steadyTurns(count int) []impl.Turn {
	list := make([]impl.Turn, count)
	for i := range list {
		list[i] = quietTurn(7)
		for node := range list[i].Drifts {
			list[i].Drifts[node] = int64(i*(node+2)%11) - 5
		}
	}
	return list
}

// One Turn, just MaxPlay of them, and those near; one more than MaxPlay is refused, whatever they are.
func TestHowManyTurnsMayBePlayed(t *testing.T) {
	for _, count := range []int{0, 1, 2, 3, maxPlay / 2, maxPlay - 1, maxPlay} {
		got, done := impl.Played(plainWorld(), steadyTurns(count))
		if done != int64(count) || got.Turns != 6+done {
			t.Errorf("%d turns: %+v, %d", count, got, done)
		}
		checkPlayed(t, plainWorld(), steadyTurns(count))
	}
	for _, count := range []int{maxPlay + 1, maxPlay + 2, 2 * maxPlay, 100000} {
		checkPlayedIs(t, plainWorld(), make([]impl.Turn, count), impl.World{}, -1)
	}
	list := steadyTurns(maxPlay + 1)
	checkPlayedIs(t, plainWorld(), list, impl.World{}, -1)
	for _, at := range []int{0, 100, maxPlay} {
		list = steadyTurns(maxPlay + 1)
		list[at] = impl.Turn{}
		checkPlayedIs(t, plainWorld(), list, impl.World{}, -1)
	}
	w := plainWorld()
	w.Turns = maxTurns
	checkPlayedIs(t, w, list, impl.World{}, -1)
	checkPlayed(t, plainWorld(), list[:maxPlay])
}

// The first Turn is refused, or the last one, or one between, for each fault: those ahead of it are done, and none behind it.
func TestWhereThePlayEnds(t *testing.T) {
	for _, fault := range turnFaults() {
		for at := range 5 {
			list := steadyTurns(5)
			list[at] = plainTurn()
			checkPlayed(t, plainWorld(), list)
			fault(&list[at])
			got, done := impl.Played(plainWorld(), list)
			ahead, _ := impl.Played(plainWorld(), list[:at])
			if done != int64(at) || got.Turns != 6+done || !sameWorld(got, ahead) {
				t.Errorf("the turn %d is refused: %+v, %d", at, got, done)
			}
			checkPlayed(t, plainWorld(), list)
		}
	}
	for _, at := range []int{0, 1, 99, maxPlay - 2, maxPlay - 1} {
		list := steadyTurns(maxPlay)
		list[at].Drifts[3] = 6
		if got, done := impl.Played(plainWorld(), list); done != int64(at) || got.Turns != 6+done {
			t.Errorf("the turn %d is refused: %+v, %d", at, got, done)
		}
		checkPlayed(t, plainWorld(), list)
	}
	// Two are refused: the first of them ends it.
	list := steadyTurns(9)
	list[6], list[4] = impl.Turn{}, quietTurn(6)
	if got, done := impl.Played(plainWorld(), list); done != 4 || got.Turns != 10 {
		t.Errorf("%+v, %d", got, done)
	}
}

// falling and rising are turns of four nodes in which one of them falls, or rises.
func falling(node int) impl.Turn {
	turn := quietTurn(4)
	turn.Falls[node] = true
	return turn
}

func rising(node int) impl.Turn {
	turn := quietTurn(4)
	turn.Rises[node] = true
	return turn
}

// A Turn is asked of the World that is there when its turn comes.
func TestTurnsAreRightOneAfterTheOther(t *testing.T) {
	quiet := quietTurn(4)
	for _, c := range []struct {
		list  []impl.Turn
		done  int64
		kinds []int64
	}{
		// Right for the World ahead, not for the one behind it: it falls when it is down already, or another does.
		{[]impl.Turn{falling(1), falling(1)}, 1, []int64{up, down, up, up}},
		{[]impl.Turn{falling(1), falling(2)}, 1, []int64{up, down, up, up}},
		{[]impl.Turn{quiet, falling(0), quiet, falling(3), rising(0)}, 3, []int64{down, up, up, up}},
		// Who rises is still down when another falls.
		{[]impl.Turn{falling(1), rising(1), rising(1)}, 2, []int64{up, up, up, up}},
		{[]impl.Turn{falling(1), rising(2)}, 1, []int64{up, down, up, up}},
		// Not right for the World ahead, right for the one behind another Turn.
		{[]impl.Turn{rising(1)}, 0, []int64{up, up, up, up}},
		{[]impl.Turn{rising(1), falling(1)}, 0, []int64{up, up, up, up}},
		{[]impl.Turn{falling(1), rising(1), falling(1), rising(1), falling(2)}, 5, []int64{up, up, down, up}},
		{[]impl.Turn{falling(3), rising(3), falling(2), quiet, rising(2), quiet, falling(0)}, 7, []int64{down, up, up, up}},
	} {
		w := world(meshOf(4, 1), []int64{up, up, up, up}, []int64{7, 7, 7, 7}, 3)
		checkPlayedIs(t, w, c.list, world(w.Config, c.kinds, []int64{7, 7, 7, 7}, 3+c.done), c.done)
	}
}

// One that is down drifts up to the limit of its Off, and the same Turn is refused when it would leave it.
func TestPlayUpToTheLimitOfOffs(t *testing.T) {
	for _, sign := range []int64{1, -1} {
		for _, kind := range []int64{down, lies} {
			for short := int64(0); short < 12; short++ {
				w := world(meshOf(4, 1), []int64{up, up, kind, up}, []int64{5, 5, sign * (maxOff - short), 5}, 0)
				turn := quietTurn(4)
				turn.Drifts[2] = 3 * sign
				done := short / 3
				want := world(w.Config, w.Kinds, []int64{5, 5, sign * (maxOff - short%3), 5}, done)
				checkPlayedIs(t, w, slices.Repeat([]impl.Turn{turn}, 4), want, min(done, 4))
			}
		}
	}
}

// Turns at MaxTurns and near it: as many are done as still may be.
func TestPlayUpToMaxTurns(t *testing.T) {
	for _, left := range []int64{0, 1, 2, 5, maxPlay - 1, maxPlay, maxPlay + 1} {
		for _, count := range []int64{0, 1, 2, 5, maxPlay - 1, maxPlay} {
			w := plainWorld()
			w.Turns = maxTurns - left
			list := steadyTurns(int(count))
			got, done := impl.Played(w, list)
			if done != min(left, count) || got.Turns != w.Turns+done || !impl.WorldOk(got) {
				t.Errorf("%d left, %d turns: %+v, %d", left, count, got, done)
			}
			checkPlayed(t, w, list)
		}
	}
	for _, turns := range []int64{-1, maxTurns + 1, math.MinInt64, math.MaxInt64} {
		w := plainWorld()
		w.Turns = turns
		checkPlayedIs(t, w, steadyTurns(2), impl.World{}, -1)
		checkSkewIs(t, w, -1, false)
	}
}

// The least and the greatest int64 in every number of a world and of a turn, one alone and all at once.
func TestSkewOfFurthestNumbers(t *testing.T) {
	for _, n := range []int64{math.MinInt64, math.MinInt64 + 1, math.MaxInt64 - 1, math.MaxInt64} {
		for field := range 6 {
			w := plainWorld()
			*fieldsOf(&w.Config)[field] = n
			checkSkewIs(t, w, -1, false)
			checkMiddleIs(t, w, plainTurn(), -1)
			checkPlayedIs(t, w, steadyTurns(2), impl.World{}, -1)
		}
		for node := range 7 {
			kinds, offs := plainWorld(), plainWorld()
			kinds.Kinds[node], offs.Offs[node] = n, n
			for _, w := range []impl.World{kinds, offs} {
				checkSkewIs(t, w, -1, false)
				checkMiddleIs(t, w, plainTurn(), -1)
				checkPlayedIs(t, w, steadyTurns(2), impl.World{}, -1)
			}
		}
		for cell := range 49 {
			drifts, errs, lied := plainTurn(), plainTurn(), plainTurn()
			drifts.Drifts[cell%7], errs.Errs[cell/7][cell%7], lied.Lies[cell/7][cell%7] = n, n, n
			for _, turn := range []impl.Turn{drifts, errs, lied} {
				checkMiddleIs(t, plainWorld(), turn, -1)
				checkPlayedIs(t, plainWorld(), []impl.Turn{turn}, plainWorld(), 0)
			}
		}
		checkAllOf(t, n)
	}
}

func checkAllOf(t *testing.T, n int64) {
	t.Helper()
	all := slices.Repeat([]int64{n}, 7)
	rows := [][]int64{all, all, all, all, all, all, all}
	flags := slices.Repeat([]bool{true}, 7)
	turns := []impl.Turn{
		{Drifts: all, Errs: rows, Lies: rows, Falls: flags, Rises: flags},
		{Drifts: all, Errs: [][]int64{nil, {n}, all}, Lies: [][]int64{}},
		{},
	}
	for _, w := range []impl.World{
		{}, world(config(n, n, n, n, n, n), all, all, n), world(meshOf(7, 2), all, all, n), world(meshOf(7, 2), nil, nil, 0),
		world(config(7, 2, n, n, n, n), make([]int64, 7), make([]int64, 7), n),
	} {
		checkSkewIs(t, w, -1, false)
		checkPlayedIs(t, w, turns, impl.World{}, -1)
		for _, turn := range turns {
			checkMiddleIs(t, w, turn, -1)
		}
	}
	for _, turn := range turns {
		checkMiddleIs(t, plainWorld(), turn, -1)
		checkPlayedIs(t, plainWorld(), []impl.Turn{turn}, plainWorld(), 0)
	}
}

// Worlds and turns of all sizes, right ones and ones of which a number is anything at all.
func TestSkewsOfAllSizes(t *testing.T) {
	p := picker{seed: 7}
	near := 0
	for range 20000 {
		w := p.world()
		turn := p.turn(w)
		checkSkew(t, w)
		checkMiddle(t, w, turn)
		if impl.NearIn(w) {
			near++
		}
		p.spoil(&turn)
		checkMiddle(t, w, turn)
		n := numbersFrom(p.seed, 1)[0]
		[][]int64{w.Kinds, w.Offs}[p.from(0, 1)][p.from(0, w.Nodes-1)] = n
		checkSkew(t, w)
		checkMiddle(t, w, turn)
	}
	if near < 2000 || near > 18000 {
		t.Errorf("%d worlds were near", near)
	}
}

// spoil puts a number that is anything at all into a turn of lists of one length, or takes a list's last one away.
func (p *picker) spoil(turn *impl.Turn) {
	last := int64(len(turn.Drifts)) - 1
	n := numbersFrom(p.seed, 1)[0]
	switch p.from(0, 6) {
	case 0:
		turn.Drifts[p.from(0, last)] = n
	case 1:
		turn.Errs[p.from(0, last)][p.from(0, last)] = n
	case 2:
		turn.Lies[p.from(0, last)][p.from(0, last)] = n
	case 3:
		turn.Drifts = turn.Drifts[:last]
	case 4:
		row := p.from(0, last)
		turn.Errs[row] = turn.Errs[row][:last]
	case 5:
		turn.Falls[p.from(0, last)] = true
	case 6:
		turn.Rises[p.from(0, last)] = true
	}
}

// Turns of all sizes, one after the other; some of them are no right ones.
func TestPlaysOfAllSizes(t *testing.T) {
	p := picker{seed: 77}
	whole, ended := 0, 0
	for range 1500 {
		w := p.world()
		if p.from(0, 3) == 0 {
			w.Turns = maxTurns - p.from(0, 9)
		}
		ahead := w
		list := make([]impl.Turn, p.from(0, 12))
		for i := range list {
			list[i] = p.turn(ahead)
			if p.from(0, 9) == 0 {
				p.spoil(&list[i])
			}
			ahead, _ = turnedWant(ahead, list[i])
		}
		checkPlayed(t, w, list)
		if _, done := impl.Played(w, list); done == int64(len(list)) {
			whole++
		} else {
			ended++
		}
	}
	if whole < 200 || ended < 200 {
		t.Errorf("%d were played to the end, %d were not", whole, ended)
	}
}

// pull makes of a right turn one in which the node i drifts as far as may be, and is told by all, and of
// those that lie, that they are as far as may be the other way: up where sign is 1, down where it is -1.
func pull(w impl.World, turn impl.Turn, i int64, sign int64) {
	turn.Drifts[i] = -sign * w.Drift
	for about := range w.Nodes {
		turn.Errs[i][about] = sign * w.Err
		turn.Lies[i][about] = sign * maxOff
	}
}

// pullApart pulls those that are below the middle further down, and then up over the others; and the others likewise.
func pullApart(w impl.World, turn impl.Turn) {
	within, _ := impl.SpanOf(w)
	for i, off := range w.Offs {
		if 2*off > within.Lo+within.Hi {
			pull(w, turn, int64(i), -1)
		} else {
			pull(w, turn, int64(i), 1)
		}
	}
}

// P7, of turns that follow one another, in meshes of all sizes: others lie, fall and rise in each of them,
// and in some turns all that can be done is done to keep them apart.
func TestThoseThatAreUpComeNearer(t *testing.T) {
	p := picker{seed: 777}
	done, near, rose, fell, atTheEnd := 0, 0, 0, 0, 0
	for range 2500 {
		first := p.world()
		w := first
		list := []impl.Turn{}
		for range 20 {
			turn := p.turn(w)
			if p.from(0, 2) > 0 {
				pullApart(w, turn)
			}
			if !impl.TurnOk(w, turn) {
				t.Fatalf("TurnOk(%+v, %+v)", w, turn)
			}
			next, is := impl.Turned(w, turn)
			if !is {
				break
			}
			done++
			checkNear(t, w, turn)
			if impl.NearIn(w) {
				near++
			}
			if impl.SkewOf(next) == impl.MiddleSkew(w, turn)/2+2*w.Err+1 {
				atTheEnd++
			}
			for node, rises := range turn.Rises {
				if rises {
					rose++
				} else if turn.Falls[node] {
					fell++
				}
			}
			list = append(list, turn)
			w = next
		}
		if got, count := impl.Played(first, list); count != int64(len(list)) || !sameWorld(got, w) {
			t.Fatalf("Played(%+v, %+v) = %+v, %d, want %+v", first, list, got, count, w)
		}
	}
	if done < 10000 || near < 5000 || rose < 500 || fell < 500 || atTheEnd < 100 {
		t.Errorf("%d turns, %d of near ones, %d rose, %d fell, %d at the end of what may be", done, near, rose, fell, atTheEnd)
	}
}

// splitWorld has as many nodes as must be for so many liars: as many as these are at lo, one is at
// between, as many are at hi; and the last ones, of that kind, are far off.
func splitWorld(liars int, drift int64, err int64, kind int64, lo int64, between int64, hi int64) impl.World {
	nodes := int64(3*liars + 1)
	c := config(nodes, int64(liars), drift, err, 2*(4*drift+5*err+2), 2)
	kinds := append(make([]int64, 2*liars+1), slices.Repeat([]int64{kind}, liars)...)
	offs := slices.Concat(slices.Repeat([]int64{lo}, liars), []int64{between}, slices.Repeat([]int64{hi}, liars), slices.Repeat([]int64{-maxOff / 2}, liars))
	return world(c, kinds, offs, 0)
}

// splitTurn pulls the low ones of a splitWorld over the high ones. The one between drifts, where it can, by
// at most 1, so that it is off from the highest by an even number, and what is rounded is rounded apart.
func splitTurn(w impl.World) impl.Turn {
	turn := quietTurn(w.Nodes)
	between := w.Liars
	sign := int64(1)
	if w.Offs[0] > w.Offs[2*w.Liars] {
		sign = -1
	}
	for i := range w.Liars {
		pull(w, turn, i, sign)
		pull(w, turn, between+1+i, -sign)
	}
	highest := max(w.Offs[0], w.Offs[2*w.Liars]) + w.Drift
	if (highest-w.Offs[between])%2 != 0 {
		turn.Drifts[between] = min(1, w.Drift)
	}
	return turn
}

// P7 at its limit: half of what they were in the middle, rounded down, twice Err and 1 is just what they come
// to be apart, where that was an odd number; where it was an even one, nothing is rounded, and it is 1 less.
func TestHalfAndTwiceErrAndOneIsReached(t *testing.T) {
	for liars := 1; liars <= 5; liars++ {
		for _, err := range []int64{0, 1, 3, 100, maxDrift} {
			for _, wide := range []int64{1, 2, 3, 4, 25, 26, 1000001, 2*maxOff/3 + 1} {
				for _, lo := range []int64{0, -1, -wide, -wide / 2, 50} {
					hi := lo + wide
					w := splitWorld(liars, 0, err, lies, lo, hi-wide/4*2, hi)
					turn := splitTurn(w)
					checkMiddleIs(t, w, turn, wide)
					turned, is := impl.Turned(w, turn)
					if want := wide/2 + wide%2 + 2*err; !is || impl.SkewOf(turned) != want {
						t.Fatalf("%d liars, Err %d, %d to %d: %+v, %v, want %d", liars, err, lo, hi, turned, is, want)
					}
					checkNear(t, w, turn)
				}
			}
		}
	}
}

// P7 of those that rise: they come to lie as far from the others as the low ones do, or the high ones.
func TestThoseThatRiseAtTheLimit(t *testing.T) {
	for liars := 1; liars <= 5; liars++ {
		for _, sign := range []int64{1, -1} {
			w := splitWorld(liars, 0, 3, down, 8, 33, 33)
			turn := splitTurn(w)
			for i := 2*liars + 1; i < 3*liars+1; i++ {
				pull(w, turn, int64(i), sign)
				turn.Rises[i] = true
			}
			// Half of 25, rounded up, and twice 3.
			turned, is := impl.Turned(w, turn)
			if !is || len(impl.UpIn(turned)) != 3*liars+1 || impl.SkewOf(turned) != 19 {
				t.Errorf("%d rise: %+v, %v", liars, turned, is)
			}
			if sign == 1 && turned.Offs[3*liars] != 36 || sign == -1 && turned.Offs[3*liars] != 17 {
				t.Errorf("%d rise: %+v", liars, turned)
			}
			checkNear(t, w, turn)
		}
	}
}

// P7 at its limit, MaxPlay turns long: they are as far apart as near ones can be, then SkewMost apart in
// the middle, and from then on they stay just 1 nearer than GapMost, whatever is done to keep them apart.
func TestNearOnesStayNearAtTheLimit(t *testing.T) {
	for liars := 1; liars <= 5; liars++ {
		for _, c := range [][2]int64{{0, 0}, {0, 1}, {1, 0}, {1, 1}, {5, 3}, {0, maxDrift}, {maxDrift, 0}, {maxDrift, maxDrift}} {
			first := splitWorld(liars, c[0], c[1], []int64{down, lies}[liars%2], 0, 0, 2*c[0]+4*c[1]+2)
			checkSkewIs(t, first, impl.GapMost(first.Config), true)
			checkMiddleIs(t, first, splitTurn(first), impl.SkewMost(first.Config))
			w := first
			list := []impl.Turn{}
			for len(list) < maxPlay {
				turn := splitTurn(w)
				checkNear(t, w, turn)
				list = append(list, turn)
				w, _ = impl.Turned(w, turn)
				if want := impl.GapMost(w.Config) - 1; c[0] > 0 && impl.SkewOf(w) != want {
					t.Fatalf("%+v, %d turns: %d, want %d", w, len(list), impl.SkewOf(w), want)
				}
			}
			if got, done := impl.Played(first, list); done != maxPlay || !sameWorld(got, w) || !impl.NearIn(got) {
				t.Fatalf("Played(%+v) = %+v, %d, want %+v", first, got, done, w)
			}
		}
	}
}

// What P7 leads to: what is more than GapMost is halved, so 51 turns make any world near.
func TestAnyWorldComesNear(t *testing.T) {
	for liars := 1; liars <= 5; liars++ {
		for _, c := range [][2]int64{{0, 0}, {5, 3}, {maxDrift, maxDrift}} {
			far := int64(maxOff - 100*maxDrift)
			first := splitWorld(liars, c[0], c[1], lies, -far, 7, far)
			w := first
			list := []impl.Turn{}
			for len(list) < 51 {
				list = append(list, splitTurn(w))
				w, _ = impl.Turned(w, list[len(list)-1])
			}
			got, done := impl.Played(first, list)
			if done != 51 || !sameWorld(got, w) || !impl.NearIn(got) || impl.NearIn(first) {
				t.Errorf("%+v, %d", got, done)
			}
			// Ahead of that many turns it is far still.
			if got, _ := impl.Played(first, list[:25]); impl.NearIn(got) {
				t.Errorf("%+v", got)
			}
		}
	}
}

// A heldPlay is a world and a list of turns that lie in rooms of their own: ahead of each list and behind
// it, of each row, and of the list of turns itself, there is more.
type heldPlay struct {
	w       impl.World
	list    []impl.Turn
	numbers [][]int64
	room    []impl.Turn
	turns   []*heldTurn
}

func holdPlay(w impl.World, list []impl.Turn) *heldPlay {
	kindsRoom, kinds := inRoom(w.Kinds)
	offsRoom, offs := inRoom(w.Offs)
	h := &heldPlay{w: world(w.Config, kinds, offs, w.Turns), numbers: [][]int64{kindsRoom, offsRoom}}
	for _, turn := range slices.Concat([]impl.Turn{quietTurn(3)}, list, []impl.Turn{plainTurn(), quietTurn(7)}) {
		held := holdTurn(turn)
		h.turns = append(h.turns, held)
		h.room = append(h.room, held.turn)
	}
	h.list = h.room[1 : 1+len(list)]
	return h
}

// same compares all rooms, whole, with those of another play that was held alike.
func (h *heldPlay) same(other *heldPlay) bool {
	for i, held := range h.turns {
		if !held.same(other.turns[i]) || !reflect.DeepEqual(h.room[i], other.room[i]) {
			return false
		}
	}
	return slices.EqualFunc(h.numbers, other.numbers, slices.Equal[[]int64])
}

// wipe writes over every room; and tells whether the list of turns still has the lists that were put into it.
func (h *heldPlay) wipe() bool {
	for _, room := range h.numbers {
		fillRoom(room)
	}
	for i, held := range h.turns {
		held.wipe()
		if !reflect.DeepEqual(h.room[i], held.turn) {
			return false
		}
	}
	return true
}

// memoryPlays are lists of turns for plainWorld: none, right ones, ones of which the first, the last or one
// between is refused, the longest one, and one that is too long.
func memoryPlays() [][]impl.Turn {
	plays := [][]impl.Turn{nil, {plainTurn()}, steadyTurns(3), steadyTurns(3), steadyTurns(3), steadyTurns(3), steadyTurns(maxPlay), steadyTurns(maxPlay + 1)}
	plays[3][0].Drifts[3] = 6
	plays[4][1].Errs[6] = nil
	plays[5][2] = quietTurn(8)
	for _, turn := range memoryTurns() {
		plays = append(plays, []impl.Turn{turn, quietTurn(7)})
	}
	return plays
}

// skewCalls are the functions of the chapter, each with all lists that it answers.
func skewCalls() []func(impl.World, []impl.Turn) [][]int64 {
	return []func(impl.World, []impl.Turn) [][]int64{
		func(w impl.World, list []impl.Turn) [][]int64 { impl.SkewOf(w); return nil },
		func(w impl.World, list []impl.Turn) [][]int64 { impl.NearIn(w); return nil },
		func(w impl.World, list []impl.Turn) [][]int64 {
			for _, turn := range list {
				impl.MiddleSkew(w, turn)
			}
			return nil
		},
		func(w impl.World, list []impl.Turn) [][]int64 {
			played, _ := impl.Played(w, list)
			return [][]int64{played.Kinds, played.Offs}
		},
	}
}

// P19: no list of a world, of a turn or of turns, no row and no room ahead of them or behind them is written
// into, not even when the answer is written into, up to the end of its own room; and what is done to the
// arguments behind the call is not seen in the answer.
func TestPlaysStay(t *testing.T) {
	for _, w := range memoryTurnWorlds() {
		for which, list := range memoryPlays() {
			held, before := holdPlay(w, list), holdPlay(w, list)
			for _, call := range skewCalls() {
				answer := call(held.w, held.list)
				if !held.same(before) {
					t.Fatalf("play %d: %+v is written into", which, w)
				}
				want := cloneRows(answer)
				again := call(held.w, held.list)
				for _, list := range answer {
					fillRoom(list)
				}
				if !held.same(before) {
					t.Fatalf("play %d: the answer shares memory with %+v", which, w)
				}
				if !held.wipe() {
					t.Fatalf("play %d: the list of turns is written into", which)
				}
				if !slices.EqualFunc(again, want, slices.Equal[[]int64]) {
					t.Fatalf("play %d: %v became %v", which, want, again)
				}
				held = holdPlay(w, list)
			}
		}
	}
}

// P19: the two lists of a played world share no memory with each other, not even behind their ends.
func TestPlayedListsAreApart(t *testing.T) {
	for _, w := range memoryTurnWorlds() {
		for _, list := range memoryPlays() {
			first, _ := impl.Played(w, list)
			second, _ := impl.Played(w, list)
			checkListsApart(t, first, second)
		}
	}
}

// A world whose lists are one and the same, and a list that has one turn many times, are asked as any others.
func TestPlayOfOneListManyTimes(t *testing.T) {
	w, turn := oneListWorld(), oneListTurn()
	list := slices.Repeat([]impl.Turn{turn}, maxPlay)
	checkSkewIs(t, w, 0, true)
	// Those that are up are at 1, 3, -3, 2 and 0 in the middle.
	checkMiddleIs(t, w, turn, 6)
	checkPlayed(t, w, list)
	for count := range 3 {
		played, done := impl.Played(w, list[:count])
		fillRoom(played.Offs)
		if done != int64(count) || !slices.Equal(played.Kinds, w.Kinds) || !sameWorld(w, oneListWorld()) || !slices.Equal(turn.Drifts, oneListTurn().Drifts) {
			t.Errorf("%+v, %+v, %+v, %d", w, turn, played, done)
		}
	}
}
