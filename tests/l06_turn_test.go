package tests

import (
	"math"
	"math/big"
	"slices"
	"testing"

	"loop.example/g00708/impl"
)

// quietTurn is right for every world of so many nodes: nothing drifts, falls or rises, and all guess right.
func quietTurn(nodes int64) impl.Turn {
	return impl.Turn{
		Drifts: make([]int64, nodes),
		Errs:   rowsOf(nodes, nodes),
		Lies:   rowsOf(nodes, nodes),
		Falls:  make([]bool, nodes),
		Rises:  make([]bool, nodes),
	}
}

func rowsOf(count int64, length int64) [][]int64 {
	rows := make([][]int64, count)
	for i := range rows {
		rows[i] = make([]int64, length)
	}
	return rows
}

// plainTurn is right for plainWorld, of which its second node rises; and new memory at every call.
func plainTurn() impl.Turn {
	turn := quietTurn(7)
	turn.Drifts = []int64{1, -2, 5, -5, 0, 3, 2}
	turn.Rises[1] = true
	for i := range int64(7) {
		for about := range int64(7) {
			turn.Errs[i][about] = (2*i+3*about)%7 - 3
			turn.Lies[i][about] = 100 * (i + 1) * (about - 3)
		}
	}
	return turn
}

func cloneRows(rows [][]int64) [][]int64 {
	clone := slices.Clone(rows)
	for i, row := range rows {
		clone[i] = slices.Clone(row)
	}
	return clone
}

func cloneTurn(turn impl.Turn) impl.Turn {
	return impl.Turn{
		Drifts: slices.Clone(turn.Drifts),
		Errs:   cloneRows(turn.Errs),
		Lies:   cloneRows(turn.Lies),
		Falls:  slices.Clone(turn.Falls),
		Rises:  slices.Clone(turn.Rises),
	}
}

func rowsWithin(rows [][]int64, nodes int, most int64) bool {
	for _, row := range rows {
		if len(row) != nodes || !withinMost(row, most) {
			return false
		}
	}
	return len(rows) == nodes
}

func withinMost(list []int64, most int64) bool {
	for _, n := range list {
		if n <= -most-1 || n >= most+1 {
			return false
		}
	}
	return true
}

func turnWant(w impl.World, turn impl.Turn) bool {
	nodes := len(w.Kinds)
	if !worldWant(w) || len(turn.Drifts) != nodes || len(turn.Falls) != nodes || len(turn.Rises) != nodes {
		return false
	}
	if !withinMost(turn.Drifts, w.Config.Drift) || !rowsWithin(turn.Errs, nodes, w.Config.Err) || !rowsWithin(turn.Lies, nodes, maxOff) {
		return false
	}
	bad := int64(0)
	for node, kind := range w.Kinds {
		if turn.Falls[node] && kind != up || turn.Rises[node] && kind != down {
			return false
		}
		if kind != up || turn.Falls[node] {
			bad++
		}
	}
	return bad <= w.Config.Liars
}

// upThen asks of a right turn who is up in its middle.
func upThen(w impl.World, turn impl.Turn, node int) bool {
	return w.Kinds[node] == up && !turn.Falls[node]
}

// guessesWant is nil where the document wants nothing.
func guessesWant(w impl.World, turn impl.Turn, i int64) []int64 {
	if !turnWant(w, turn) || i < 0 || i >= w.Config.Nodes || !upThen(w, turn, int(i)) && !turn.Rises[i] {
		return nil
	}
	guesses := slices.Clone(turn.Lies[i])
	for node := range guesses {
		if upThen(w, turn, node) {
			guesses[node] = w.Offs[node] + turn.Drifts[node] - (w.Offs[i] + turn.Drifts[i]) + turn.Errs[i][node]
		}
	}
	if upThen(w, turn, int(i)) {
		guesses[i] = 0
	}
	return guesses
}

// correctionWant is 0 and false where there are no guesses.
func correctionWant(w impl.World, guesses []int64) (int64, bool) {
	left := trimmedWant(guesses, w.Config.Liars)
	if left == nil {
		return 0, false
	}
	sum := new(big.Int).Add(big.NewInt(left[0]), big.NewInt(left[len(left)-1]))
	return floorBig(sum, big.NewInt(2)).Int64(), true
}

func turnedWant(w impl.World, turn impl.Turn) (impl.World, bool) {
	if !worldWant(w) {
		return impl.World{}, false
	}
	if !turnWant(w, turn) {
		return w, false
	}
	want := world(w.Config, nil, nil, w.Turns+1)
	for node, kind := range w.Kinds {
		by, asks := correctionWant(w, guessesWant(w, turn, int64(node)))
		if asks {
			kind = up
		} else if turn.Falls[node] {
			kind = down
		}
		want.Kinds = append(want.Kinds, kind)
		want.Offs = append(want.Offs, w.Offs[node]+turn.Drifts[node]+by)
	}
	if !worldWant(want) {
		return w, false
	}
	return want, true
}

func checkGuesses(t *testing.T, w impl.World, turn impl.Turn, i int64) {
	t.Helper()
	want := guessesWant(w, turn, i)
	if got := impl.GuessesOf(w, turn, i); !slices.Equal(got, want) {
		t.Fatalf("GuessesOf(%+v, %+v, %d) = %v, want %v", w, turn, i, got, want)
	}
	by, asks := correctionWant(w, want)
	if got, is := impl.CorrectionOf(w, turn, i); got != by || is != asks {
		t.Fatalf("CorrectionOf(%+v, %+v, %d) = %d, %v, want %d, %v", w, turn, i, got, is, by, asks)
	}
}

// middleSpan is, of a right turn, what those that are up in its middle span.
func middleSpan(w impl.World, turn impl.Turn) impl.Span {
	within := span(math.MaxInt64, math.MinInt64)
	for node, off := range w.Offs {
		if upThen(w, turn, node) {
			within.Lo = min(within.Lo, off+turn.Drifts[node])
			within.Hi = max(within.Hi, off+turn.Drifts[node])
		}
	}
	return within
}

// checkWithin is P6, in its own words.
func checkWithin(t *testing.T, w impl.World, turn impl.Turn) {
	t.Helper()
	turned, is := impl.Turned(w, turn)
	if !is {
		return
	}
	within := middleSpan(w, turn)
	for node, kind := range turned.Kinds {
		off := turned.Offs[node]
		if kind == impl.NdUp && (off < within.Lo-w.Err || off > within.Hi+w.Err) {
			t.Fatalf("Turned(%+v, %+v) = %+v: the node %d is not within %v, but for Err", w, turn, turned, node, within)
		}
	}
}

// checkTurn holds every function of the chapter against a reckoning of the tests' own.
func checkTurn(t *testing.T, w impl.World, turn impl.Turn) {
	t.Helper()
	if got, want := impl.TurnOk(w, turn), turnWant(w, turn); got != want {
		t.Fatalf("TurnOk(%+v, %+v) = %v", w, turn, got)
	}
	for i := int64(-2); i <= int64(len(w.Kinds))+1; i++ {
		checkGuesses(t, w, turn, i)
	}
	for _, i := range []int64{math.MinInt64, -1 << 32, 16, 17, 1 << 32, math.MaxInt64} {
		checkGuesses(t, w, turn, i)
	}
	got, is := impl.Turned(w, turn)
	if want, wantIs := turnedWant(w, turn); is != wantIs || !sameWorld(got, want) {
		t.Fatalf("Turned(%+v, %+v) = %+v, %v, want %+v, %v", w, turn, got, is, want, wantIs)
	}
	checkWithin(t, w, turn)
}

// checkTurnOk also says, beside the reckoning, what the answer must be.
func checkTurnOk(t *testing.T, w impl.World, turn impl.Turn, want bool) {
	t.Helper()
	if got := impl.TurnOk(w, turn); got != want {
		t.Fatalf("TurnOk(%+v, %+v) = %v", w, turn, got)
	}
	checkTurn(t, w, turn)
}

// checkTurned also says what must come of it, right or refused.
func checkTurned(t *testing.T, w impl.World, turn impl.Turn, want impl.World, wantIs bool) {
	t.Helper()
	if got, is := impl.Turned(w, turn); is != wantIs || !sameWorld(got, want) {
		t.Fatalf("Turned(%+v, %+v) = %+v, %v, want %+v, %v", w, turn, got, is, want, wantIs)
	}
	checkTurn(t, w, turn)
}

// All of this is worked out by hand.
func TestPlainTurn(t *testing.T) {
	w, turn := plainWorld(), plainTurn()
	checkTurnOk(t, w, turn, true)
	for _, c := range []struct {
		i       int64
		guesses []int64
		by      int64
		asks    bool
	}{
		{-1, nil, 0, false},
		{0, []int64{0, -200, 11, -12, -24, 200, 1}, -6, true},
		// It rises: of itself it guesses by what it is told, and of the others as they all do.
		{1, []int64{10, -400, 17, 1, -18, 400, 14}, 7, true},
		{2, []int64{-7, -600, 0, -16, -35, 600, -10}, -12, true},
		{3, []int64{14, -800, 21, 0, -14, 800, 11}, 7, true},
		{4, []int64{24, -1000, 31, 15, 0, 1000, 28}, 21, true},
		{5, nil, 0, false},
		{6, []int64{2, -1400, 9, -14, -26, 1400, 0}, -6, true},
		{7, nil, 0, false},
	} {
		if got := impl.GuessesOf(w, turn, c.i); !slices.Equal(got, c.guesses) {
			t.Errorf("%d guesses %v, want %v", c.i, got, c.guesses)
		}
		if got, asks := impl.CorrectionOf(w, turn, c.i); got != c.by || asks != c.asks {
			t.Errorf("%d is put right by %d, %v, want %d, %v", c.i, got, asks, c.by, c.asks)
		}
	}
	want := world(meshOf(7, 2), []int64{up, up, up, up, up, lies, up}, []int64{0, 2, 2, 2, 1, 73, 0}, 7)
	checkTurned(t, w, turn, want, true)
}

func TestOrdinaryTurns(t *testing.T) {
	alone := world(meshOf(1, 0), []int64{up}, []int64{-8}, 0)
	turn := quietTurn(1)
	turn.Drifts[0], turn.Errs[0][0], turn.Lies[0][0] = 5, 3, 900
	checkTurned(t, alone, turn, world(meshOf(1, 0), []int64{up}, []int64{-3}, 1), true)

	// No one can be left out of two, and the middle is rounded down for each of them.
	two := world(meshOf(2, 0), []int64{up, up}, []int64{0, 7}, 4)
	checkTurned(t, two, quietTurn(2), world(meshOf(2, 0), []int64{up, up}, []int64{3, 3}, 5), true)

	four := world(meshOf(4, 1), []int64{up, up, up, lies}, []int64{10, 0, 6, 0}, 0)
	turn = quietTurn(4)
	turn.Lies[0][3], turn.Lies[1][3], turn.Lies[2][3] = 1000, -1000, 4
	checkTurned(t, four, turn, world(meshOf(4, 1), []int64{up, up, up, lies}, []int64{8, 3, 8, 0}, 1), true)

	// The one that falls is put right no more, and counts by what is told of it.
	turn = quietTurn(4)
	turn.Falls[0], turn.Drifts[0] = true, 2
	turn.Lies[1][0], turn.Lies[2][0], turn.Lies[3][0] = 100, -100, 100
	all := world(meshOf(4, 1), []int64{up, up, up, up}, []int64{10, 0, 6, 4}, 0)
	checkTurned(t, all, turn, world(meshOf(4, 1), []int64{down, up, up, up}, []int64{12, 5, 2, 5}, 1), true)

	// 16 nodes, of which the five furthest lie: what the others tell is 6 to 16, less 5 at either end.
	kinds := append(slices.Repeat([]int64{lies}, 5), make([]int64, 11)...)
	great := world(meshOf(16, 5), kinds, upTo(16), 9)
	turn = quietTurn(16)
	for _, row := range turn.Lies {
		copy(row, []int64{-maxOff, maxOff, -maxOff, maxOff, -maxOff})
	}
	offs := append(upTo(5), slices.Repeat([]int64{10}, 11)...)
	checkTurned(t, great, turn, world(meshOf(16, 5), kinds, offs, 10), true)
}

// Of one that is up nothing that is told of itself is heard; of one that rises it is.
func TestWhatIsToldOfItself(t *testing.T) {
	w := world(meshOf(4, 1), []int64{up, up, up, down}, []int64{10, 0, 6, -7}, 0)
	turn := quietTurn(4)
	turn.Rises[3] = true
	for node := range 4 {
		turn.Errs[node][node], turn.Lies[node][node] = 3, 500
	}
	for i, want := range [][]int64{{0, -10, -4, 0}, {10, 0, 6, 0}, {4, -6, 0, 0}, {17, 7, 13, 500}} {
		if got := impl.GuessesOf(w, turn, int64(i)); !slices.Equal(got, want) {
			t.Errorf("%d guesses %v, want %v", i, got, want)
		}
	}
	checkTurn(t, w, turn)
}

// What is told of one that is up goes by Errs alone, and of all others, one that rises among them, by Lies alone.
func TestWhichRowIsHeard(t *testing.T) {
	w := world(meshOf(7, 2), []int64{up, up, up, up, up, down, lies}, make([]int64, 7), 0)
	for _, rises := range []bool{false, true} {
		for i := range int64(7) {
			for about := range int64(7) {
				turn := quietTurn(7)
				turn.Rises[5] = rises
				turn.Errs[i][about], turn.Lies[i][about] = 2, 700
				want := make([]int64, 7)
				want[about] = 2
				if about > 4 {
					want[about] = 700
				}
				if about == i && i < 5 {
					want[about] = 0
				}
				if i == 6 || i == 5 && !rises {
					want = nil
				}
				if got := impl.GuessesOf(w, turn, i); !slices.Equal(got, want) {
					t.Errorf("%d guesses of %d %v, want %v", i, about, got, want)
				}
				checkTurn(t, w, turn)
			}
		}
	}
}

// Who falls is down in the middle: it guesses nothing, and all go by what is told of it, not by its Off.
func TestWhoFallsIsDownInTheMiddle(t *testing.T) {
	for fallen := range int64(4) {
		w := world(meshOf(4, 1), []int64{up, up, up, up}, []int64{7, 20, -4, 9}, 3)
		turn := quietTurn(4)
		turn.Falls[fallen] = true
		for i := range int64(4) {
			turn.Lies[i][fallen] = 1000 + i
			turn.Errs[i][fallen] = 3
		}
		for i := range int64(4) {
			got := impl.GuessesOf(w, turn, i)
			if i == fallen && len(got) != 0 || i != fallen && got[fallen] != 1000+i {
				t.Errorf("%d falls, and %d guesses %v", fallen, i, got)
			}
		}
		turned, is := impl.Turned(w, turn)
		if !is || turned.Kinds[fallen] != impl.NdDown || turned.Offs[fallen] != w.Offs[fallen] {
			t.Errorf("%d falls: %+v, %v", fallen, turned, is)
		}
		checkTurn(t, w, turn)
	}
}

// Who rises is up behind the turn, and who is down and does not rise stays so and only drifts.
func TestWhoRises(t *testing.T) {
	for set := range 4 {
		w := world(meshOf(7, 2), []int64{up, down, up, up, down, up, up}, []int64{5, 100, 5, 5, -100, 5, 5}, 0)
		turn := quietTurn(7)
		turn.Drifts[1], turn.Drifts[4] = 4, -4
		want := world(w.Config, slices.Clone(w.Kinds), []int64{5, 104, 5, 5, -104, 5, 5}, 1)
		for bit, node := range []int{1, 4} {
			if set>>bit&1 == 1 {
				turn.Rises[node] = true
				want.Kinds[node], want.Offs[node] = up, 5
			}
		}
		checkTurned(t, w, turn, want, true)
	}
}

// Each is put right by what all were in the middle: if it were one after the other, the second
// would hear of the 8 that the first one comes to, not of its 16, and come to 4.
func TestAllArePutRightAtOnce(t *testing.T) {
	w := world(meshOf(3, 0), []int64{up, up, up}, []int64{16, 0, 4}, 0)
	checkTurned(t, w, quietTurn(3), world(meshOf(3, 0), []int64{up, up, up}, []int64{8, 8, 8}, 1), true)
	// One that rises first of all is not yet heard by the others.
	w = world(meshOf(4, 1), []int64{down, up, up, up}, []int64{-500, 16, 0, 4}, 0)
	turn := quietTurn(4)
	turn.Rises[0] = true
	for i := 1; i < 4; i++ {
		turn.Lies[i][0] = 300
	}
	turn.Lies[0][0] = -900
	checkTurned(t, w, turn, world(meshOf(4, 1), []int64{up, up, up, up}, []int64{2, 10, 10, 10}, 1), true)
}

// swapped puts the nodes into the other order, so that what is done first would be done last.
func swapped(w impl.World, turn impl.Turn) (impl.World, impl.Turn) {
	w, turn = cloneWorld(w), cloneTurn(turn)
	slices.Reverse(w.Kinds)
	slices.Reverse(w.Offs)
	slices.Reverse(turn.Drifts)
	slices.Reverse(turn.Falls)
	slices.Reverse(turn.Rises)
	for _, rows := range [][][]int64{turn.Errs, turn.Lies} {
		slices.Reverse(rows)
		for _, row := range rows {
			slices.Reverse(row)
		}
	}
	return w, turn
}

// The order of the nodes is seen in nothing but the order of the answer.
func TestOrderOfNodesIsNotHeard(t *testing.T) {
	p := picker{seed: 61}
	for range 3000 {
		w := p.world()
		turn := p.turn(w)
		got, is := impl.Turned(w, turn)
		otherW, otherTurn := swapped(w, turn)
		other, otherIs := impl.Turned(otherW, otherTurn)
		slices.Reverse(other.Kinds)
		slices.Reverse(other.Offs)
		if is != otherIs || !sameWorld(got, other) {
			t.Fatalf("Turned(%+v, %+v) = %+v, %v; the other way round %+v, %v", w, turn, got, is, other, otherIs)
		}
	}
}

// worldFaults each make plainWorld one that is not WorldOk.
func worldFaults() []func(*impl.World) {
	return []func(*impl.World){
		func(w *impl.World) { w.Nodes = 6 },
		func(w *impl.World) { w.Nodes = 8 },
		func(w *impl.World) { w.Liars = 1 },
		func(w *impl.World) { w.Liars = 3 },
		func(w *impl.World) { w.Drift = maxDrift + 1 },
		func(w *impl.World) { w.Err = maxDrift + 1 },
		func(w *impl.World) { w.Period = 369 },
		func(w *impl.World) { w.Slew = 1 },
		func(w *impl.World) { w.Kinds[0] = -1 },
		func(w *impl.World) { w.Kinds[6] = 3 },
		func(w *impl.World) { w.Kinds[2] = lies },
		func(w *impl.World) { w.Kinds[2] = down },
		func(w *impl.World) { w.Kinds = w.Kinds[:6] },
		func(w *impl.World) { w.Kinds = append(w.Kinds, up) },
		func(w *impl.World) { w.Kinds = nil },
		func(w *impl.World) { w.Offs = w.Offs[:6] },
		func(w *impl.World) { w.Offs = append(w.Offs, 0) },
		func(w *impl.World) { w.Offs = nil },
		func(w *impl.World) { w.Offs[1] = maxOff + 1 },
		func(w *impl.World) { w.Offs[5] = -maxOff - 1 },
		func(w *impl.World) { w.Turns = -1 },
		func(w *impl.World) { w.Turns = maxTurns + 1 },
		func(w *impl.World) { *w = impl.World{} },
	}
}

// Whatever is wrong with a world, no turn is right for it, and nothing of it is left.
func TestTurnsOfWrongWorlds(t *testing.T) {
	for _, fault := range worldFaults() {
		w := plainWorld()
		fault(&w)
		for _, turn := range []impl.Turn{plainTurn(), quietTurn(7), quietTurn(6), quietTurn(8), quietTurn(0), {}} {
			checkTurnOk(t, w, turn, false)
			checkTurned(t, w, turn, impl.World{}, false)
		}
	}
	for code := int64(1); code <= 4; code++ {
		withFaults(meshOf(7, 2), []int64{code}, func(c impl.Config) {
			w := plainWorld()
			w.Config = c
			checkTurned(t, w, plainTurn(), impl.World{}, false)
		})
	}
	checkTurnOk(t, plainWorld(), plainTurn(), true)
}

// Worlds at the limits of what is right have turns.
func TestTurnsOfWorldsAtLimits(t *testing.T) {
	w := plainWorld()
	w.Period = 370
	checkTurnOk(t, w, plainTurn(), true)
	w.Offs = []int64{maxOff, -maxOff, maxOff, -maxOff, maxOff, maxOff, -maxOff}
	checkTurnOk(t, w, plainTurn(), true)
	w.Turns = maxTurns
	checkTurnOk(t, w, plainTurn(), true)
}

// resized is a turn of so many nodes whose lists are each of a length of their own, the rows of nodes numbers.
func resized(nodes int64, lengths [5]int64) impl.Turn {
	return impl.Turn{
		Drifts: make([]int64, lengths[0]),
		Errs:   rowsOf(lengths[1], nodes),
		Lies:   rowsOf(lengths[2], nodes),
		Falls:  make([]bool, lengths[3]),
		Rises:  make([]bool, lengths[4]),
	}
}

// Of every number of nodes: each list alone, and all of them, one less, one more, none and many.
func TestTurnsOfOtherLengths(t *testing.T) {
	for nodes := int64(1); nodes <= 16; nodes++ {
		w := world(meshOf(nodes, (nodes-1)/3), make([]int64, nodes), upTo(int(nodes)), 0)
		right := [5]int64{nodes, nodes, nodes, nodes, nodes}
		checkTurnOk(t, w, resized(nodes, right), true)
		for _, length := range []int64{nodes - 1, nodes + 1, 0, 2 * nodes, 1000} {
			for list := range right {
				lengths := right
				lengths[list] = length
				checkTurnOk(t, w, resized(nodes, lengths), false)
			}
			lengths := [5]int64{length, length, length, length, length}
			checkTurnOk(t, w, resized(nodes, lengths), false)
			checkTurnOk(t, w, resized(length, lengths), false)
		}
		for _, turn := range turnsWithoutOne(nodes) {
			checkTurned(t, w, turn, w, false)
		}
	}
}

// turnsWithoutOne each have one list that is nil, or none at all.
func turnsWithoutOne(nodes int64) []impl.Turn {
	turns := []impl.Turn{quietTurn(nodes), quietTurn(nodes), quietTurn(nodes), quietTurn(nodes), quietTurn(nodes), {}}
	turns[0].Drifts = nil
	turns[1].Errs = nil
	turns[2].Lies = nil
	turns[3].Falls = nil
	turns[4].Rises = nil
	return turns
}

// Spare room is no number of a node, in a list as in a row.
func TestSpareRoomIsNotOfATurn(t *testing.T) {
	turn := plainTurn()
	turn.Drifts = turn.Drifts[:6]
	checkTurnOk(t, plainWorld(), turn, false)
	turn = plainTurn()
	turn.Errs = turn.Errs[:6]
	checkTurnOk(t, plainWorld(), turn, false)
	turn = plainTurn()
	turn.Lies[3] = turn.Lies[3][:6]
	checkTurnOk(t, plainWorld(), turn, false)
	turn = plainTurn()
	turn.Falls, turn.Rises = turn.Falls[:6], turn.Rises[:6]
	checkTurnOk(t, plainWorld(), turn, false)
}

// One row alone has another length; or two have, and all of them together as many numbers as they must.
func TestRowsOfOtherLengths(t *testing.T) {
	for nodes := int64(1); nodes <= 16; nodes++ {
		w := world(meshOf(nodes, (nodes-1)/3), make([]int64, nodes), upTo(int(nodes)), 0)
		for at := range nodes {
			for _, length := range []int64{nodes - 1, nodes + 1, 0, 2 * nodes} {
				turn := quietTurn(nodes)
				turn.Errs[at] = make([]int64, length)
				checkTurnOk(t, w, turn, false)
				turn = quietTurn(nodes)
				turn.Lies[at] = make([]int64, length)
				checkTurnOk(t, w, turn, false)
			}
			errs, lied := quietTurn(nodes), quietTurn(nodes)
			errs.Errs[at], lied.Lies[at] = nil, nil
			checkTurnOk(t, w, errs, false)
			checkTurnOk(t, w, lied, false)
			next := (at + 1) % nodes
			errs.Errs[at], errs.Errs[next] = make([]int64, nodes-1), make([]int64, nodes+1)
			lied.Lies[at], lied.Lies[next] = make([]int64, nodes-1), make([]int64, nodes+1)
			checkTurnOk(t, w, errs, false)
			checkTurnOk(t, w, lied, false)
		}
	}
}

// aroundLimits are numbers and whether they lie from -most to most.
func aroundLimits(most int64) []struct {
	n    int64
	want bool
} {
	return []struct {
		n    int64
		want bool
	}{
		{0, true}, {most, true}, {-most, true}, {most + 1, false}, {-most - 1, false}, {2*most + 2, false},
		{maxNs, false}, {-maxNs, false}, {math.MaxInt64, false}, {math.MinInt64, false}, {math.MinInt64 + 1, false},
	}
}

// ranged is a mesh of 7 with 2 liars, with that Drift and Err, its Period long enough.
func ranged(drift int64, err int64) impl.Config {
	return config(7, 2, drift, err, 4*(4*drift+5*err+2), 2)
}

func TestDrifts(t *testing.T) {
	for _, drift := range []int64{0, 1, 5, maxDrift} {
		for _, c := range aroundLimits(drift) {
			for node := range 7 {
				w, turn := plainWorld(), plainTurn()
				w.Config = ranged(drift, 3)
				clear(turn.Drifts)
				turn.Drifts[node] = c.n
				checkTurnOk(t, w, turn, c.want)
			}
		}
	}
}

// Of each node about each node: of itself, too, and of one that is down or lies, though nobody hears these.
func TestErrs(t *testing.T) {
	for _, most := range []int64{0, 1, 3, maxDrift} {
		for _, c := range aroundLimits(most) {
			for cell := range 49 {
				w, turn := plainWorld(), plainTurn()
				w.Config = ranged(5, most)
				turn.Errs = rowsOf(7, 7)
				turn.Errs[cell/7][cell%7] = c.n
				checkTurnOk(t, w, turn, c.want)
			}
		}
	}
}

func TestLies(t *testing.T) {
	for _, c := range append(aroundLimits(maxOff), aroundLimits(maxOff - 1)[:3]...) {
		for cell := range 49 {
			turn := plainTurn()
			turn.Lies[cell/7][cell%7] = c.n
			checkTurnOk(t, plainWorld(), turn, c.want)
		}
	}
}

// The limits of Drifts and of Errs are not mixed up, nor are those of the rows.
func TestEachLimitIsItsOwn(t *testing.T) {
	w, turn := plainWorld(), plainTurn()
	w.Config = ranged(5, 2)
	turn.Errs = rowsOf(7, 7)
	checkTurnOk(t, w, turn, true)
	turn.Errs[0][1] = 3
	checkTurnOk(t, w, turn, false)
	w.Config, turn.Errs[0][1] = ranged(4, 8), 8
	checkTurnOk(t, w, turn, false)
	clear(turn.Drifts)
	checkTurnOk(t, w, turn, true)
}

// Only one that is up falls, only one that is down rises: each kind at each node, falling, rising, both.
func TestWhoMayFallAndRise(t *testing.T) {
	for _, kind := range []int64{up, down, lies} {
		for node := range 7 {
			w := world(meshOf(7, 2), make([]int64, 7), []int64{5, -3, 9, 0, -20, 70, 4}, 0)
			w.Kinds[node] = kind
			falls, rises, both := quietTurn(7), quietTurn(7), quietTurn(7)
			falls.Falls[node], rises.Rises[node] = true, true
			both.Falls[node], both.Rises[node] = true, true
			checkTurnOk(t, w, quietTurn(7), true)
			checkTurnOk(t, w, falls, kind == up)
			checkTurnOk(t, w, rises, kind == down)
			checkTurnOk(t, w, both, false)
		}
	}
}

// Every way in which 4 nodes can be up, be down or lie, fall and rise.
func TestAllFallsAndRisesOfFour(t *testing.T) {
	right := 0
	for kinds := range 81 {
		w := world(meshOf(4, 1), make([]int64, 4), []int64{12, -9, 3, 40}, 0)
		for node, rest := 0, kinds; node < 4; node, rest = node+1, rest/3 {
			w.Kinds[node] = int64(rest % 3)
		}
		for flags := range 256 {
			turn := quietTurn(4)
			turn.Falls, turn.Rises = liarsOf(4, flags&15), liarsOf(4, flags>>4)
			turn.Lies = [][]int64{{50, -60, 70, -80}, {-5, 6, -7, 8}, {900, 901, 902, 903}, {-1, -2, -3, -4}}
			checkTurn(t, w, turn)
			if impl.TurnOk(w, turn) {
				right++
			}
		}
	}
	// None is down or lies, and none or one falls; or one lies; or one is down, and rises or not.
	if right != 5+4+8 {
		t.Errorf("%d turns were right", right)
	}
}

// Of every mesh, behind the falls: just Liars that are down or lie, and one more. Who rises makes no room.
func TestHowManyMayFall(t *testing.T) {
	for nodes := int64(1); nodes <= 16; nodes++ {
		for liars := int64(0); 3*liars < nodes; liars++ {
			for downs := int64(0); downs <= liars; downs++ {
				for liesToo := int64(0); downs+liesToo <= liars; liesToo++ {
					checkFalls(t, nodes, liars, downs, liesToo)
				}
			}
		}
	}
}

func checkFalls(t *testing.T, nodes int64, liars int64, downs int64, liesToo int64) {
	t.Helper()
	kinds := make([]int64, nodes)
	for i := range downs + liesToo {
		kinds[i] = lies
		if i < downs {
			kinds[i] = down
		}
	}
	w := world(meshOf(nodes, liars), kinds, upTo(int(nodes)), 0)
	for falls := int64(0); falls <= min(liars+1, nodes-downs-liesToo); falls++ {
		for rises := int64(0); rises <= downs; rises++ {
			turn := quietTurn(nodes)
			for i := range falls {
				turn.Falls[nodes-1-i] = true
			}
			for i := range rises {
				turn.Rises[i] = true
			}
			checkTurnOk(t, w, turn, downs+liesToo+falls <= liars)
		}
	}
}

// GuessesOf and CorrectionOf for each that can be asked, and for those that can't.
func TestWhoGuesses(t *testing.T) {
	w := world(meshOf(13, 4), make([]int64, 13), upTo(13), 0)
	w.Kinds[2], w.Kinds[5], w.Kinds[9] = down, lies, down
	turn := quietTurn(13)
	turn.Falls[7], turn.Rises[9] = true, true
	for i := int64(-3); i < 17; i++ {
		want := i >= 0 && i < 13 && i != 2 && i != 5 && i != 7
		guesses := impl.GuessesOf(w, turn, i)
		_, is := impl.CorrectionOf(w, turn, i)
		if is != want || want && len(guesses) != 13 || !want && len(guesses) != 0 {
			t.Errorf("%d guesses %v, %v", i, guesses, is)
		}
	}
	for _, i := range []int64{math.MinInt64, math.MinInt64 + 1, math.MaxInt64 - 1, math.MaxInt64, 1 << 32, -1 << 32, 1<<32 + 1} {
		by, is := impl.CorrectionOf(w, turn, i)
		if len(impl.GuessesOf(w, turn, i)) != 0 || by != 0 || is {
			t.Errorf("%d is put right by %d, %v", i, by, is)
		}
	}
	checkTurn(t, w, turn)
}

// Guesses of what is furthest apart, with the greatest drifts and errs, are still times.
func TestGuessesOfFurthestOffs(t *testing.T) {
	w := world(ranged(maxDrift, maxDrift), make([]int64, 7), []int64{-maxOff, maxOff, maxOff, maxOff, -maxOff, -maxOff, maxOff}, 0)
	turn := quietTurn(7)
	for node, off := range w.Offs {
		turn.Drifts[node] = off / maxOff * maxDrift
		for about := range 7 {
			turn.Errs[node][about] = -off / maxOff * maxDrift
		}
	}
	far := int64(2*maxOff + 3*maxDrift)
	want := []int64{0, far, far, far, maxDrift, maxDrift, far}
	if got := impl.GuessesOf(w, turn, 0); !slices.Equal(got, want) {
		t.Errorf("%v, want %v", got, want)
	}
	if got, is := impl.CorrectionOf(w, turn, 0); got != maxOff+2*maxDrift || !is {
		t.Errorf("%d, %v", got, is)
	}
	checkTurn(t, w, turn)
}

// One that has drifted out of range in the middle may be put right into it again; where one is not, nothing is done.
func TestOffsThatWouldLeave(t *testing.T) {
	for _, sign := range []int64{1, -1} {
		for _, c := range []struct {
			kind  int64
			rises bool
			drift int64
			want  bool
		}{
			{up, false, 1, true}, {up, false, 5, true},
			{down, true, 1, true}, {down, true, 5, true},
			{down, false, 0, true}, {down, false, -1, true}, {down, false, 1, false}, {down, false, 5, false},
			{lies, false, 0, true}, {lies, false, -5, true}, {lies, false, 1, false},
		} {
			for node := range 4 {
				w := world(meshOf(4, 1), make([]int64, 4), make([]int64, 4), 8)
				w.Kinds[node], w.Offs[node] = c.kind, sign*maxOff
				turn := quietTurn(4)
				turn.Drifts[node], turn.Rises[node] = sign*c.drift, c.rises
				if _, is := impl.Turned(w, turn); is != c.want {
					t.Errorf("%+v at the node %d: %v", c, node, is)
				}
				checkTurnOk(t, w, turn, true)
			}
		}
	}
}

// Who falls drifts as all do, and by nothing else.
func TestWhoFallsAtTheLimitOfOffs(t *testing.T) {
	for _, sign := range []int64{1, -1} {
		for drift := int64(-5); drift <= 5; drift++ {
			w := world(meshOf(4, 1), make([]int64, 4), []int64{0, 0, sign * maxOff, 0}, 8)
			turn := quietTurn(4)
			turn.Drifts[2], turn.Falls[2] = sign*drift, true
			want := world(w.Config, []int64{up, up, down, up}, []int64{0, 0, sign * (maxOff + drift), 0}, 9)
			if drift > 0 {
				want = w
			}
			checkTurned(t, w, turn, want, drift <= 0)
		}
	}
}

// All are at the limit, and what they are put right by takes them over it, or just up to it.
func TestCorrectionsAtTheLimitOfOffs(t *testing.T) {
	for _, sign := range []int64{1, -1} {
		for short := range int64(7) {
			at := sign * (maxOff - short)
			w := world(meshOf(4, 1), make([]int64, 4), slices.Repeat([]int64{at}, 4), 8)
			turn := quietTurn(4)
			for _, row := range turn.Errs {
				for about := range row {
					row[about] = 3 * sign
				}
			}
			want := world(w.Config, make([]int64, 4), slices.Repeat([]int64{at + 3*sign}, 4), 9)
			if short < 3 {
				want = w
			}
			checkTurned(t, w, turn, want, short >= 3)
		}
		alone := world(meshOf(1, 0), []int64{up}, []int64{sign * maxOff}, 8)
		for drift := int64(-5); drift <= 5; drift++ {
			turn := quietTurn(1)
			turn.Drifts[0] = sign * drift
			want := world(alone.Config, []int64{up}, []int64{sign * (maxOff + drift)}, 9)
			if drift > 0 {
				want = alone
			}
			checkTurned(t, alone, turn, want, drift <= 0)
		}
	}
}

func TestTurnsAreCounted(t *testing.T) {
	for _, turns := range []int64{0, 1, 6, maxTurns - 2, maxTurns - 1} {
		w := plainWorld()
		w.Turns = turns
		if got, is := impl.Turned(w, plainTurn()); !is || got.Turns != turns+1 {
			t.Errorf("%d turns and one more: %+v, %v", turns, got, is)
		}
		checkTurnOk(t, w, plainTurn(), true)
	}
	w := plainWorld()
	w.Turns = maxTurns
	checkTurnOk(t, w, plainTurn(), true)
	checkTurned(t, w, plainTurn(), w, false)
	for _, turns := range []int64{-1, maxTurns + 1, math.MinInt64, math.MaxInt64} {
		w.Turns = turns
		checkTurned(t, w, plainTurn(), impl.World{}, false)
	}
}

// turnFaults each make plainTurn one that is not right for plainWorld.
func turnFaults() []func(*impl.Turn) {
	return []func(*impl.Turn){
		func(turn *impl.Turn) { turn.Drifts[6] = 6 },
		func(turn *impl.Turn) { turn.Drifts[0] = -6 },
		func(turn *impl.Turn) { turn.Errs[6][6] = 4 },
		func(turn *impl.Turn) { turn.Errs[0][5] = -4 },
		func(turn *impl.Turn) { turn.Lies[6][6] = maxOff + 1 },
		func(turn *impl.Turn) { turn.Lies[0][0] = -maxOff - 1 },
		func(turn *impl.Turn) { turn.Falls[0] = true },
		func(turn *impl.Turn) { turn.Falls[1] = true },
		func(turn *impl.Turn) { turn.Falls[5] = true },
		func(turn *impl.Turn) { turn.Rises[0] = true },
		func(turn *impl.Turn) { turn.Rises[5] = true },
		func(turn *impl.Turn) { turn.Falls = turn.Falls[:6] },
		func(turn *impl.Turn) { turn.Rises = append(turn.Rises, false) },
		func(turn *impl.Turn) { turn.Errs = append(turn.Errs, make([]int64, 7)) },
		func(turn *impl.Turn) { turn.Lies = turn.Lies[1:] },
	}
}

// A refused turn leaves the world as it is, whichever of its parts is wrong.
func TestRefusedTurnLeavesTheWorld(t *testing.T) {
	for _, fault := range turnFaults() {
		turn := plainTurn()
		fault(&turn)
		checkTurnOk(t, plainWorld(), turn, false)
		checkTurned(t, plainWorld(), turn, plainWorld(), false)
	}
}

// The least and the greatest int64 in every number of a world and of a turn, one alone and all at once.
func TestTurnsOfFurthestNumbers(t *testing.T) {
	for _, n := range []int64{math.MinInt64, math.MinInt64 + 1, math.MaxInt64 - 1, math.MaxInt64} {
		for field := range 6 {
			w := plainWorld()
			*fieldsOf(&w.Config)[field] = n
			checkTurnOk(t, w, plainTurn(), false)
		}
		for node := range 7 {
			kinds, offs := plainWorld(), plainWorld()
			kinds.Kinds[node], offs.Offs[node] = n, n
			checkTurnOk(t, kinds, plainTurn(), false)
			checkTurnOk(t, offs, plainTurn(), false)
		}
		all := slices.Repeat([]int64{n}, 7)
		rows := [][]int64{all, all, all, all, all, all, all}
		flags := slices.Repeat([]bool{true}, 7)
		full := impl.Turn{Drifts: all, Errs: rows, Lies: rows, Falls: flags, Rises: flags}
		for _, w := range []impl.World{
			plainWorld(), {}, world(config(n, n, n, n, n, n), all, all, n), world(meshOf(7, 2), all, all, n),
			world(config(7, 2, n, n, n, n), make([]int64, 7), make([]int64, 7), n),
		} {
			checkTurnOk(t, w, full, false)
			checkTurnOk(t, w, impl.Turn{Drifts: all, Errs: [][]int64{nil, {n}, all}, Lies: [][]int64{}}, false)
			checkTurnOk(t, w, impl.Turn{}, false)
		}
	}
}

// A picker gives numbers one after the other, always the same ones for one seed.
type picker struct{ seed uint64 }

// from is a number from lo to hi.
func (p *picker) from(lo int64, hi int64) int64 {
	p.seed = p.seed*6364136223846793005 + 1442695040888963407
	return lo + int64(p.seed>>12%uint64(hi-lo+1))
}

// around is a number from -most to most, often one at an end.
func (p *picker) around(most int64) int64 {
	switch p.from(0, 3) {
	case 0:
		return most
	case 1:
		return -most
	}
	return p.from(-most, most)
}

// world is a right one, of any size; some of its nodes are down or lie, often as many as may.
func (p *picker) world() impl.World {
	nodes := p.from(1, 16)
	liars := p.from(0, (nodes-1)/3)
	drift, err := p.from(0, 9), p.from(0, 9)
	if p.from(0, 7) == 0 {
		drift, err = maxDrift, maxDrift
	}
	w := world(config(nodes, liars, drift, err, 2*(4*drift+5*err+2), 2), make([]int64, nodes), make([]int64, nodes), p.from(0, maxTurns-1))
	for range p.from(0, liars) {
		w.Kinds[p.from(0, nodes-1)] = p.from(1, 2)
	}
	far := []int64{0, 5, 100, maxDrift, maxOff}[p.from(0, 4)]
	for node := range w.Offs {
		w.Offs[node] = p.around(far)
	}
	return w
}

// turn is right for w, which is right; some rise, and some fall, often as many as may.
func (p *picker) turn(w impl.World) impl.Turn {
	turn := quietTurn(w.Nodes)
	room := w.Liars
	for node, kind := range w.Kinds {
		if kind != up {
			room--
		}
		turn.Rises[node] = kind == down && p.from(0, 1) == 1
	}
	far := []int64{0, 12, 200, maxOff}[p.from(0, 3)]
	for node := range w.Kinds {
		turn.Drifts[node] = p.around(w.Drift)
		for about := range w.Kinds {
			turn.Errs[node][about] = p.around(w.Err)
			turn.Lies[node][about] = p.around(far)
		}
	}
	for range p.from(0, room) {
		if node := p.from(0, w.Nodes-1); w.Kinds[node] == up {
			turn.Falls[node] = true
		}
	}
	return turn
}

func TestTurnsOfAllSizes(t *testing.T) {
	p := picker{seed: 6}
	turned := 0
	for range 10000 {
		w := p.world()
		turn := p.turn(w)
		checkTurnOk(t, w, turn, true)
		if _, is := impl.Turned(w, turn); is {
			turned++
		}
		// One number that is anything at all.
		n := numbersFrom(p.seed, 1)[0]
		list := [][]int64{turn.Drifts, turn.Errs[p.from(0, w.Nodes-1)], turn.Lies[p.from(0, w.Nodes-1)]}[p.from(0, 2)]
		list[p.from(0, w.Nodes-1)] = n
		checkTurn(t, w, turn)
	}
	if turned < 5000 {
		t.Errorf("only %d turns were done", turned)
	}
}

// P6, of turns that follow one another: those that lie, fall and rise are others in each mesh, and all
// that are up come to lie within what those that were up in the middle span, but for Err.
func TestWhoeverIsUpLiesWithinTheMiddle(t *testing.T) {
	p := picker{seed: 66}
	done, atTheEnd, rose := 0, 0, 0
	for range 2000 {
		w := p.world()
		for range 10 {
			turn := p.turn(w)
			if !impl.TurnOk(w, turn) {
				t.Fatalf("TurnOk(%+v, %+v)", w, turn)
			}
			next, is := impl.Turned(w, turn)
			if !is {
				break
			}
			done++
			checkWithin(t, w, turn)
			within := middleSpan(w, turn)
			for node, off := range next.Offs {
				if next.Kinds[node] == impl.NdUp && w.Err > 0 && (off == within.Lo-w.Err || off == within.Hi+w.Err) {
					atTheEnd++
				}
				if next.Kinds[node] == impl.NdUp && w.Kinds[node] == impl.NdDown {
					rose++
				}
			}
			w = next
		}
	}
	if done < 5000 || atTheEnd < 10 || rose < 500 {
		t.Errorf("%d turns, %d at the end of what they may be, %d rose", done, atTheEnd, rose)
	}
}

// P6 at its limit: all that are up show the same time, and Err is all that takes them from it.
func TestErrAloneTakesThemFromTheMiddle(t *testing.T) {
	for _, sign := range []int64{1, -1} {
		w := world(meshOf(7, 2), []int64{up, up, up, up, up, lies, down}, []int64{8, 8, 8, 8, 8, 0, -900}, 0)
		turn := quietTurn(7)
		turn.Rises[6] = true
		for node := range 7 {
			for about := range 7 {
				turn.Errs[node][about] = 3 * sign
				turn.Lies[node][about] = maxOff * sign
			}
		}
		want := world(w.Config, []int64{up, up, up, up, up, lies, up}, slices.Repeat([]int64{8 + 3*sign}, 7), 1)
		want.Offs[5] = 0
		checkTurned(t, w, turn, want, true)
	}
}

// A heldTurn lies in rooms of its own: ahead of each list and behind it, and of each row, there is more.
type heldTurn struct {
	turn    impl.Turn
	numbers [][]int64
	rows    [][][]int64
	flags   [][]bool
}

func (h *heldTurn) holdNumbers(list []int64) []int64 {
	room, held := inRoom(list)
	h.numbers = append(h.numbers, room)
	return held
}

func (h *heldTurn) holdRows(rows [][]int64) [][]int64 {
	room := [][]int64{h.holdNumbers([]int64{1, 2})}
	for _, row := range rows {
		room = append(room, h.holdNumbers(row))
	}
	room = append(room, h.holdNumbers([]int64{3}), h.holdNumbers(nil))
	h.rows = append(h.rows, room)
	return room[1 : 1+len(rows)]
}

func (h *heldTurn) holdFlags(list []bool) []bool {
	room := slices.Concat([]bool{true}, list, []bool{true, false, true})
	h.flags = append(h.flags, room)
	return room[1 : 1+len(list)]
}

func holdTurn(turn impl.Turn) *heldTurn {
	h := &heldTurn{}
	h.turn = impl.Turn{
		Drifts: h.holdNumbers(turn.Drifts),
		Errs:   h.holdRows(turn.Errs),
		Lies:   h.holdRows(turn.Lies),
		Falls:  h.holdFlags(turn.Falls),
		Rises:  h.holdFlags(turn.Rises),
	}
	return h
}

// same compares all rooms, whole, with those of another turn that was held alike.
func (h *heldTurn) same(other *heldTurn) bool {
	sameRows := func(a [][]int64, b [][]int64) bool { return slices.EqualFunc(a, b, slices.Equal[[]int64]) }
	return slices.EqualFunc(h.numbers, other.numbers, slices.Equal[[]int64]) &&
		slices.EqualFunc(h.rows, other.rows, sameRows) &&
		slices.EqualFunc(h.flags, other.flags, slices.Equal[[]bool])
}

// wipe writes over every room.
func (h *heldTurn) wipe() {
	for _, room := range h.numbers {
		fillRoom(room)
	}
	for _, rows := range h.rows {
		clear(rows)
	}
	for _, room := range h.flags {
		for i := range room {
			room[i] = !room[i]
		}
	}
}

// turnCalls are the functions of the chapter, each with all lists that it answers.
func turnCalls() []func(impl.World, impl.Turn) [][]int64 {
	calls := []func(impl.World, impl.Turn) [][]int64{
		func(w impl.World, turn impl.Turn) [][]int64 { impl.TurnOk(w, turn); return nil },
		func(w impl.World, turn impl.Turn) [][]int64 {
			turned, _ := impl.Turned(w, turn)
			return [][]int64{turned.Kinds, turned.Offs}
		},
	}
	for i := int64(-1); i <= 7; i++ {
		calls = append(calls,
			func(w impl.World, turn impl.Turn) [][]int64 { return [][]int64{impl.GuessesOf(w, turn, i)} },
			func(w impl.World, turn impl.Turn) [][]int64 { impl.CorrectionOf(w, turn, i); return nil })
	}
	return calls
}

// memoryTurns are right ones and wrong ones, for plainWorld.
func memoryTurns() []impl.Turn {
	list := []impl.Turn{plainTurn(), quietTurn(7), plainTurn(), plainTurn(), plainTurn(), plainTurn(), quietTurn(6), quietTurn(8), {}}
	list[2].Drifts[3] = 6
	list[3].Falls[2] = true
	list[4].Lies[6] = list[4].Lies[6][:6]
	list[5].Rises = nil
	return list
}

// memoryTurnWorlds have lists of 7, and are right, wrong, or right but at an edge at which Turned refuses.
func memoryTurnWorlds() []impl.World {
	list := []impl.World{plainWorld(), plainWorld(), plainWorld(), plainWorld(), {}}
	list[1].Turns = maxTurns
	list[2].Offs[5] = maxOff
	list[3].Kinds[0] = lies
	return list
}

// P19: neither the lists of a world and of a turn, nor its rows, nor the room ahead of them and behind them
// are written into, not even when the answer is written into, up to the end of its own room; and what is
// done to the arguments behind the call is not seen in the answer.
func TestTurnsStay(t *testing.T) {
	for _, w := range memoryTurnWorlds() {
		for _, turn := range memoryTurns() {
			for which, call := range turnCalls() {
				kindsRoom, kinds := inRoom(w.Kinds)
				offsRoom, offs := inRoom(w.Offs)
				kindsBefore, offsBefore := slices.Clone(kindsRoom), slices.Clone(offsRoom)
				held, before := holdTurn(turn), holdTurn(cloneTurn(turn))
				stays := func() bool {
					return slices.Equal(kindsRoom, kindsBefore) && slices.Equal(offsRoom, offsBefore) && held.same(before)
				}
				given := world(w.Config, kinds, offs, w.Turns)
				answer := call(given, held.turn)
				if !stays() {
					t.Fatalf("call %d: %+v, %+v is written into", which, w, turn)
				}
				want := cloneRows(answer)
				again := call(given, held.turn)
				for _, list := range answer {
					fillRoom(list)
				}
				if !stays() {
					t.Fatalf("call %d: the answer shares memory with %+v, %+v", which, w, turn)
				}
				fillRoom(kindsRoom)
				fillRoom(offsRoom)
				held.wipe()
				if !slices.EqualFunc(again, want, slices.Equal[[]int64]) {
					t.Fatalf("call %d: %v became %v", which, want, again)
				}
			}
		}
	}
}

// checkListsApart takes two answers of one call, and writes over one list of each.
func checkListsApart(t *testing.T, first impl.World, second impl.World) {
	t.Helper()
	want := cloneWorld(first)
	fillRoom(first.Kinds)
	fillRoom(second.Offs)
	if !slices.Equal(first.Offs, want.Offs) || !slices.Equal(second.Kinds, want.Kinds) {
		t.Errorf("%+v and %+v, want %+v", first, second, want)
	}
}

// P19: the two lists of a turned world share no memory with each other, not even behind their ends.
func TestTurnedListsAreApart(t *testing.T) {
	for _, w := range memoryTurnWorlds() {
		for _, turn := range memoryTurns() {
			first, _ := impl.Turned(w, turn)
			second, _ := impl.Turned(w, turn)
			checkListsApart(t, first, second)
		}
	}
}

// oneListWorld has two lists that are one and the same; its second node is down, its sixth one lies.
func oneListWorld() impl.World {
	both := []int64{up, down, up, up, up, lies, up}
	return world(meshOf(7, 2), both, both, 0)
}

// oneListTurn has one row many times, and its flags once.
func oneListTurn() impl.Turn {
	row := []int64{1, -2, 3, -3, 2, -1, 0}
	rows := [][]int64{row, row, row, row, row, row, row}
	flags := make([]bool, 7)
	return impl.Turn{Drifts: row, Errs: rows, Lies: rows, Falls: flags, Rises: flags}
}

// A world whose lists are one and the same, and a turn whose rows and flags are, is asked as any other.
func TestTurnOfOneListManyTimes(t *testing.T) {
	w, turn := oneListWorld(), oneListTurn()
	checkTurnOk(t, w, turn, true)
	// Those that are up are at 1, 3, -3, 2 and 0 in the middle, so they come to lie near these.
	turned, is := impl.Turned(w, turn)
	if !is || !slices.Equal(turned.Kinds, oneListWorld().Kinds) || turned.Turns != 1 {
		t.Errorf("%+v, %v", turned, is)
	}
	fillRoom(turned.Offs)
	if !slices.Equal(turned.Kinds, w.Kinds) || !sameWorld(w, oneListWorld()) || !slices.Equal(turn.Drifts, oneListTurn().Drifts) {
		t.Errorf("%+v, %+v, %+v", w, turn, turned)
	}
}
