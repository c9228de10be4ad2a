package tests

import (
	"math"
	"slices"
	"sort"
	"testing"

	"loop.example/g00708/impl"
)

// clock takes the fields in the order in which the document names them.
func clock(hard int64, value int64, owed int64) impl.Clock {
	return impl.Clock{Hard: hard, Value: value, Owed: owed}
}

func isOff(n int64) bool { return -maxOff <= n && n <= maxOff }

func clockWant(c impl.Clock, slew int64) bool {
	return c.Hard >= 0 && isOff(c.Hard) && isOff(c.Value) && isOff(c.Owed) && slew > 1 && slew <= maxSlew
}

// toldWant says whether the clock can be told at hard.
func toldWant(c impl.Clock, slew int64, hard int64) bool {
	return clockWant(c, slew) && c.Hard <= hard && hard <= maxOff
}

// paidWant holds the debt between what could be paid by then of a debt of either sign.
func paidWant(c impl.Clock, slew int64, hard int64) int64 {
	most := (hard - c.Hard) / slew
	return max(-most, min(most, c.Owed))
}

// checkTold holds ClockOk, ReadAt and OwedAt against a reckoning of the tests' own.
func checkTold(t *testing.T, c impl.Clock, slew int64, hard int64) {
	t.Helper()
	if got, want := impl.ClockOk(c, slew), clockWant(c, slew); got != want {
		t.Fatalf("ClockOk(%+v, %d) = %v, want %v", c, slew, got, want)
	}
	var shown, owed int64
	want := toldWant(c, slew, hard)
	if want {
		paid := paidWant(c, slew, hard)
		shown, owed = c.Value+(hard-c.Hard)+paid, c.Owed-paid
	}
	if got, is := impl.ReadAt(c, slew, hard); got != shown || is != want {
		t.Fatalf("ReadAt(%+v, %d, %d) = %d, %v, want %d, %v", c, slew, hard, got, is, shown, want)
	}
	if got, is := impl.OwedAt(c, slew, hard); got != owed || is != want {
		t.Fatalf("OwedAt(%+v, %d, %d) = %d, %v, want %d, %v", c, slew, hard, got, is, owed, want)
	}
}

// checkToldIs also says, beside the reckoning, what the answers must be.
func checkToldIs(t *testing.T, c impl.Clock, slew int64, hard int64, shown int64, owed int64) {
	t.Helper()
	if got, is := impl.ReadAt(c, slew, hard); got != shown || !is {
		t.Fatalf("ReadAt(%+v, %d, %d) = %d, %v, want %d, true", c, slew, hard, got, is, shown)
	}
	if got, is := impl.OwedAt(c, slew, hard); got != owed || !is {
		t.Fatalf("OwedAt(%+v, %d, %d) = %d, %v, want %d, true", c, slew, hard, got, is, owed)
	}
	checkTold(t, c, slew, hard)
}

func checkNotTold(t *testing.T, c impl.Clock, slew int64, hard int64) {
	t.Helper()
	if got, is := impl.ReadAt(c, slew, hard); got != 0 || is {
		t.Fatalf("ReadAt(%+v, %d, %d) = %d, %v, want 0, false", c, slew, hard, got, is)
	}
	if got, is := impl.OwedAt(c, slew, hard); got != 0 || is {
		t.Fatalf("OwedAt(%+v, %d, %d) = %d, %v, want 0, false", c, slew, hard, got, is)
	}
	checkTold(t, c, slew, hard)
}

func correctedWant(c impl.Clock, slew int64, hard int64, by int64) (impl.Clock, bool) {
	if !clockWant(c, slew) {
		return impl.Clock{}, false
	}
	if !toldWant(c, slew, hard) || !isOff(by) {
		return c, false
	}
	paid := paidWant(c, slew, hard)
	put := clock(hard, c.Value+(hard-c.Hard)+paid, c.Owed-paid+by)
	if !isOff(put.Value) || !isOff(put.Owed) {
		return c, false
	}
	return put, true
}

func checkCorrected(t *testing.T, c impl.Clock, slew int64, hard int64, by int64) {
	t.Helper()
	want, wantIs := correctedWant(c, slew, hard, by)
	if got, is := impl.Corrected(c, slew, hard, by); got != want || is != wantIs {
		t.Fatalf("Corrected(%+v, %d, %d, %d) = %+v, %v, want %+v, %v", c, slew, hard, by, got, is, want, wantIs)
	}
}

// checkCorrectedIs also says, beside the reckoning, what must come of it.
func checkCorrectedIs(t *testing.T, c impl.Clock, slew int64, hard int64, by int64, want impl.Clock, wantIs bool) {
	t.Helper()
	if got, is := impl.Corrected(c, slew, hard, by); got != want || is != wantIs {
		t.Fatalf("Corrected(%+v, %d, %d, %d) = %+v, %v, want %+v, %v", c, slew, hard, by, got, is, want, wantIs)
	}
	checkCorrected(t, c, slew, hard, by)
}

// paidWhenWant looks by halves for the first hard at which all of the debt is paid.
func paidWhenWant(c impl.Clock, slew int64) (int64, bool) {
	if !clockWant(c, slew) {
		return 0, false
	}
	room := int(maxOff - c.Hard + 1)
	e := sort.Search(room, func(e int) bool { return paidWant(c, slew, c.Hard+int64(e)) == c.Owed })
	if e == room {
		return 0, false
	}
	return c.Hard + int64(e), true
}

func checkPaid(t *testing.T, c impl.Clock, slew int64) {
	t.Helper()
	want, wantIs := paidWhenWant(c, slew)
	if got, is := impl.PaidWhen(c, slew); got != want || is != wantIs {
		t.Fatalf("PaidWhen(%+v, %d) = %d, %v, want %d, %v", c, slew, got, is, want, wantIs)
	}
}

// checkPaidIs also says, beside the reckoning, what the answer must be.
func checkPaidIs(t *testing.T, c impl.Clock, slew int64, want int64, wantIs bool) {
	t.Helper()
	if got, is := impl.PaidWhen(c, slew); got != want || is != wantIs {
		t.Fatalf("PaidWhen(%+v, %d) = %d, %v, want %d, %v", c, slew, got, is, want, wantIs)
	}
	checkPaid(t, c, slew)
}

// checkWrongClock says that nothing is told of what is no clock, or of none with that slew.
func checkWrongClock(t *testing.T, c impl.Clock, slew int64) {
	t.Helper()
	if impl.ClockOk(c, slew) {
		t.Fatalf("ClockOk(%+v, %d)", c, slew)
	}
	for _, n := range []int64{0, 1, -1, c.Hard, c.Hard + 1, maxOff, maxOff + 1, -maxOff, -maxOff - 1, math.MinInt64, math.MaxInt64} {
		checkNotTold(t, c, slew, n)
		for _, by := range []int64{0, 1, -c.Owed, maxOff, -maxOff - 1, n} {
			checkCorrectedIs(t, c, slew, n, by, impl.Clock{}, false)
		}
	}
	checkPaidIs(t, c, slew, 0, false)
}

// All of this is worked out by hand.
func TestOrdinaryClocks(t *testing.T) {
	for _, c := range []struct {
		c    impl.Clock
		slew int64
		told [][3]int64
		when int64
	}{
		{clock(100, 1000, -3), 10, [][3]int64{{100, 1000, -3}, {109, 1009, -3}, {110, 1009, -2}, {119, 1018, -2}, {120, 1018, -1}, {129, 1027, -1}, {130, 1027, 0}, {131, 1028, 0}, {140, 1037, 0}}, 130},
		{clock(100, 1000, 3), 10, [][3]int64{{100, 1000, 3}, {109, 1009, 3}, {110, 1011, 2}, {119, 1020, 2}, {120, 1022, 1}, {129, 1031, 1}, {130, 1033, 0}, {131, 1034, 0}, {140, 1043, 0}}, 130},
		{clock(100, 1000, 0), 10, [][3]int64{{100, 1000, 0}, {109, 1009, 0}, {110, 1010, 0}, {130, 1030, 0}}, 100},
		{clock(0, 0, 2), 2, [][3]int64{{0, 0, 2}, {1, 1, 2}, {2, 3, 1}, {3, 4, 1}, {4, 6, 0}, {5, 7, 0}, {100, 102, 0}}, 4},
		{clock(0, 0, -2), 2, [][3]int64{{0, 0, -2}, {1, 1, -2}, {2, 1, -1}, {3, 2, -1}, {4, 2, 0}, {5, 3, 0}, {100, 98, 0}}, 4},
		{clock(7, -50, 1), 3, [][3]int64{{7, -50, 1}, {9, -48, 1}, {10, -46, 0}, {56, 0, 0}}, 10},
		{clock(7, -50, -1), 3, [][3]int64{{7, -50, -1}, {9, -48, -1}, {10, -48, 0}, {58, 0, 0}}, 10},
		{clock(1000, -1000000, 5), 100000, [][3]int64{{100999, -900001, 5}, {101000, -899999, 4}, {501000, -499995, 0}, {501001, -499994, 0}}, 501000},
		{clock(0, 0, 0), 2, [][3]int64{{0, 0, 0}, {1, 1, 0}, {2, 2, 0}}, 0},
	} {
		if !impl.ClockOk(c.c, c.slew) {
			t.Fatalf("ClockOk(%+v, %d) = false", c.c, c.slew)
		}
		for _, at := range c.told {
			checkToldIs(t, c.c, c.slew, at[0], at[1], at[2])
		}
		checkPaidIs(t, c.c, c.slew, c.when, true)
	}
}

// One clock that is read, put right and read again, worked out by hand.
func TestOrdinaryCorrections(t *testing.T) {
	c := clock(0, 500, 4)
	for _, step := range []struct {
		hard, by int64
		want     impl.Clock
	}{
		{7, -5, clock(7, 509, -3)},
		{10, 0, clock(10, 511, -2)},
		// What had not been paid yet of the next part is counted anew.
		{12, 2, clock(12, 513, 0)},
		{20, 0, clock(20, 521, 0)},
		{20, 3, clock(20, 521, 3)},
		{20, -4, clock(20, 521, -1)},
		{22, 0, clock(22, 523, -1)},
		{25, 0, clock(25, 525, 0)},
		{25, maxOff, clock(25, 525, maxOff)},
		{28, 1, clock(28, 529, maxOff)},
		{28, -maxOff, clock(28, 529, 0)},
		{28, -maxOff, clock(28, 529, -maxOff)},
		{31, -1, clock(31, 531, -maxOff)},
	} {
		checkToldIs(t, c, 3, step.hard, step.want.Value, step.want.Owed-step.by)
		checkCorrectedIs(t, c, 3, step.hard, step.by, step.want, true)
		c = step.want
	}
}

// Each slew'th tick behind Hard pays one of the debt: the clock is told here by going there tick by tick.
func TestClocksTickByTick(t *testing.T) {
	for slew := int64(2); slew <= 9; slew++ {
		for debt := int64(-5); debt <= 5; debt++ {
			for _, c := range []impl.Clock{clock(0, 0, debt), clock(3, -7, debt), clock(1000, 40, debt), clock(maxOff-60, maxOff-60, debt), clock(maxOff-60, -maxOff, debt)} {
				checkTickByTick(t, c, slew)
			}
		}
	}
}

func checkTickByTick(t *testing.T, c impl.Clock, slew int64) {
	t.Helper()
	shown, owed, when := c.Value, c.Owed, int64(-1)
	for e := range int64(61) {
		if e > 0 {
			shown++
		}
		if e > 0 && e%slew == 0 && owed > 0 {
			shown, owed = shown+1, owed-1
		} else if e > 0 && e%slew == 0 && owed < 0 {
			shown, owed = shown-1, owed+1
		}
		if owed == 0 && when < 0 {
			when = c.Hard + e
		}
		checkToldIs(t, c, slew, c.Hard+e, shown, owed)
		if by := e%7 - 3; isOff(shown) && isOff(owed+by) {
			checkCorrectedIs(t, c, slew, c.Hard+e, by, clock(c.Hard+e, shown, owed+by), true)
		}
	}
	checkPaidIs(t, c, slew, when, true)
}

// What has been asked of a clock tells nothing of what is asked next.
func TestClocksAreToldInAnyOrder(t *testing.T) {
	c := clock(10, 0, -20)
	for _, hard := range []int64{maxOff, 10, 50, 49, 11, 50, maxOff, 10} {
		checkTold(t, c, 4, hard)
		checkCorrected(t, c, 4, hard, 9)
		checkPaidIs(t, c, 4, 90, true)
		// With another slew, and with another clock.
		checkTold(t, c, 5, hard)
		checkPaidIs(t, c, 5, 110, true)
		checkTold(t, clock(10, 0, 20), 4, hard)
	}
}

// e by the slew where it leaves a rest: towards 0 with a debt of either sign, as long as there is a debt left.
func TestRestsOfDebts(t *testing.T) {
	for _, slew := range []int64{2, 3, 7, 10, 99999, 100000} {
		for _, parts := range []int64{0, 1, 2, 9, 10} {
			for _, rest := range []int64{0, 1, slew - 1} {
				for _, sign := range []int64{1, -1} {
					c := clock(5, 20, sign*10)
					e := parts*slew + rest
					checkToldIs(t, c, slew, 5+e, 20+e+sign*parts, sign*(10-parts))
				}
			}
		}
	}
}

// The hard at which the last of the debt is paid, one less and one more.
func TestWhenTheLastIsPaid(t *testing.T) {
	for _, slew := range []int64{2, 3, 10, 777, 99999, 100000} {
		for _, size := range []int64{1, 2, 5, 100, 1000000} {
			for _, sign := range []int64{1, -1} {
				for _, hard := range []int64{0, 1, 4321, maxOff - size*slew} {
					c := clock(hard, -3, sign*size)
					when := hard + size*slew
					checkPaidIs(t, c, slew, when, true)
					checkToldIs(t, c, slew, when-1, -3+size*slew-1+sign*(size-1), sign)
					checkToldIs(t, c, slew, when, -3+size*slew+sign*size, 0)
					if when < maxOff {
						checkToldIs(t, c, slew, when+1, -3+size*slew+1+sign*size, 0)
					}
					checkToldIs(t, c, slew, maxOff, -3+maxOff-hard+sign*size, 0)
				}
			}
		}
	}
}

func TestPaidWhenNothingIsOwed(t *testing.T) {
	for _, hard := range []int64{0, 1, 500, maxOff - 1, maxOff} {
		for _, value := range []int64{0, 3, maxOff, -maxOff} {
			for _, slew := range []int64{2, 10, maxSlew} {
				checkPaidIs(t, clock(hard, value, 0), slew, hard, true)
			}
		}
	}
}

// A debt that is paid just at MaxOff, and one that would be paid later: by one tick, or by one part of the debt.
func TestPaidJustAtMaxOff(t *testing.T) {
	for _, slew := range []int64{2, 3, 10, 99999, 100000} {
		for _, size := range []int64{1, 2, 3, 1000, 1000000} {
			for _, sign := range []int64{1, -1} {
				last := maxOff - size*slew
				checkPaidIs(t, clock(last-1, 0, sign*size), slew, maxOff-1, true)
				checkPaidIs(t, clock(last, 0, sign*size), slew, maxOff, true)
				checkPaidIs(t, clock(last+1, 0, sign*size), slew, 0, false)
				checkPaidIs(t, clock(last, 0, sign*(size+1)), slew, 0, false)
				checkPaidIs(t, clock(maxOff, 0, sign*size), slew, 0, false)
				checkToldIs(t, clock(last, 0, sign*size), slew, maxOff, maxOff-last+sign*size, 0)
				checkToldIs(t, clock(last+1, 0, sign*size), slew, maxOff, maxOff-last-1+sign*(size-1), sign)
			}
		}
	}
	// From 0 on, the greatest debts that are paid by then.
	for _, sign := range []int64{1, -1} {
		checkPaidIs(t, clock(0, 0, sign*maxOff/2), 2, maxOff, true)
		checkPaidIs(t, clock(0, 0, sign*(maxOff/2+1)), 2, 0, false)
		checkPaidIs(t, clock(1, 0, sign*maxOff/2), 2, 0, false)
		checkPaidIs(t, clock(0, 0, sign*10000000000), maxSlew, maxOff, true)
		checkPaidIs(t, clock(0, 0, sign*10000000001), maxSlew, 0, false)
		checkPaidIs(t, clock(0, 0, sign*333333333333333), 3, maxOff-1, true)
		checkPaidIs(t, clock(1, 0, sign*333333333333333), 3, maxOff, true)
		checkPaidIs(t, clock(2, 0, sign*333333333333333), 3, 0, false)
	}
}

// Debts that, times the slew, would be more than an int64 holds; some would come back as small numbers.
func TestDebtsThatWrapRound(t *testing.T) {
	for _, c := range []struct{ owed, slew int64 }{
		{1 << 48, 65536}, {3 << 48, 65536}, {1<<48 + 1, 65536}, {1 << 49, 32768}, {1 << 47, 65536}, {1 << 48, 32768},
		{maxOff, maxSlew}, {maxOff, maxSlew - 1}, {maxOff - 1, maxSlew}, {184467440737096, maxSlew}, {184467440737095, maxSlew},
		{276701161105643, maxSlew - 1}, {92233720368547, maxSlew}, {92233720368548, maxSlew},
	} {
		for _, hard := range []int64{0, 1, 12345, maxOff} {
			checkPaidIs(t, clock(hard, 0, c.owed), c.slew, 0, false)
			checkPaidIs(t, clock(hard, 0, -c.owed), c.slew, 0, false)
			for _, at := range []int64{hard, maxOff - maxOff%7, maxOff} {
				checkTold(t, clock(hard, 0, c.owed), c.slew, at)
				checkTold(t, clock(hard, 0, -c.owed), c.slew, at)
			}
		}
	}
}

func TestHardOfClocks(t *testing.T) {
	for _, c := range []struct {
		hard int64
		want bool
	}{
		{0, true}, {1, true}, {maxOff - 1, true}, {maxOff, true},
		{-1, false}, {-2, false}, {-maxOff, false}, {maxOff + 1, false}, {maxOff + 2, false}, {maxNs, false},
		{math.MinInt64, false}, {math.MinInt64 + 1, false}, {math.MaxInt64, false},
	} {
		for _, owed := range []int64{0, 3, -3} {
			if !c.want {
				checkWrongClock(t, clock(c.hard, 8, owed), 10)
				continue
			}
			checkToldIs(t, clock(c.hard, 8, owed), 10, c.hard, 8, owed)
			checkCorrectedIs(t, clock(c.hard, 8, owed), 10, c.hard, 2, clock(c.hard, 8, owed+2), true)
		}
	}
}

func TestValueAndOwedOfClocks(t *testing.T) {
	for _, c := range aroundLimits(maxOff) {
		for _, hard := range []int64{0, 77, maxOff} {
			value, owed := clock(hard, c.n, 4), clock(hard, 4, c.n)
			if !c.want {
				checkWrongClock(t, value, 10)
				checkWrongClock(t, owed, 10)
				checkWrongClock(t, clock(hard, c.n, c.n), 10)
				continue
			}
			checkToldIs(t, value, 10, hard, c.n, 4)
			checkToldIs(t, owed, 10, hard, 4, c.n)
			checkToldIs(t, clock(hard, c.n, c.n), 10, hard, c.n, c.n)
			checkCorrectedIs(t, value, 10, hard, 0, value, true)
			checkCorrectedIs(t, owed, 10, hard, 0, owed, true)
		}
	}
}

func TestSlewsOfClocks(t *testing.T) {
	for _, c := range []struct {
		slew int64
		want bool
	}{
		{2, true}, {3, true}, {maxSlew - 1, true}, {maxSlew, true},
		{1, false}, {0, false}, {-1, false}, {-2, false}, {-10, false}, {-maxSlew, false}, {maxSlew + 1, false}, {maxSlew + 2, false},
		{math.MinInt64, false}, {math.MinInt64 + 1, false}, {math.MaxInt64, false},
	} {
		for _, owed := range []int64{0, 3, -3} {
			plain := clock(100, 8, owed)
			if !c.want {
				checkWrongClock(t, plain, c.slew)
				continue
			}
			paid := min(3, 500/c.slew)
			if owed < 0 {
				paid = -paid
			} else if owed == 0 {
				paid = 0
			}
			checkToldIs(t, plain, c.slew, 600, 508+paid, owed-paid)
			checkCorrectedIs(t, plain, c.slew, 600, 7, clock(600, 508+paid, owed-paid+7), true)
			checkPaidIs(t, plain, c.slew, 100+c.slew*max(owed, -owed), true)
		}
	}
}

// hard one less than Hard, at Hard, at MaxOff and one more.
func TestWhenClocksAreAsked(t *testing.T) {
	for _, hard := range []int64{0, 1, 100, maxOff - 1, maxOff} {
		for _, owed := range []int64{0, 40, -40} {
			c := clock(hard, -6, owed)
			checkToldIs(t, c, 10, hard, -6, owed)
			checkCorrectedIs(t, c, 10, hard, 5, clock(hard, -6, owed+5), true)
			checkTold(t, c, 10, maxOff)
			if _, is := impl.ReadAt(c, 10, maxOff); !is {
				t.Errorf("%+v can't be read at MaxOff", c)
			}
			for _, at := range []int64{hard - 1, hard - 2, -1, -hard - 1, -maxOff, maxOff + 1, maxOff + 2, maxNs, math.MinInt64, math.MinInt64 + 1, math.MaxInt64} {
				checkNotTold(t, c, 10, at)
				for _, by := range []int64{0, 5, -5, maxOff, maxOff + 1, math.MinInt64} {
					checkCorrectedIs(t, c, 10, at, by, c, false)
				}
			}
		}
	}
}

// What a clock shows may be more than MaxOff; it is told all the same.
func TestReadPastMaxOff(t *testing.T) {
	checkToldIs(t, clock(0, maxOff, 0), 2, maxOff, 2*maxOff, 0)
	checkToldIs(t, clock(0, maxOff, maxOff), 2, maxOff, 2*maxOff+maxOff/2, maxOff/2)
	checkToldIs(t, clock(0, maxOff, -maxOff), 2, maxOff, 2*maxOff-maxOff/2, -maxOff/2)
	checkToldIs(t, clock(0, -maxOff, maxOff), 2, maxOff, maxOff/2, maxOff/2)
	checkToldIs(t, clock(0, -maxOff, -maxOff), 2, maxOff, -maxOff/2, -maxOff/2)
	checkToldIs(t, clock(0, maxOff, 3), 2, 1, maxOff+1, 3)
	checkToldIs(t, clock(0, maxOff, 3), 2, 2, maxOff+3, 2)
	checkToldIs(t, clock(maxOff-1, maxOff, -3), maxSlew, maxOff, maxOff+1, -3)
}

// by at -MaxOff and at MaxOff, and past each, where what is owed then would be in its range.
func TestCorrectedByItsLimits(t *testing.T) {
	for _, c := range aroundLimits(maxOff) {
		for _, hard := range []int64{100, 104, 110, 130} {
			for _, owed := range []int64{0, 2, -2, maxOff, -maxOff, maxOff - 1, 1 - maxOff, maxOff / 2, -maxOff / 2} {
				plain := clock(100, 0, owed)
				checkCorrected(t, plain, 10, hard, c.n)
				if !c.want {
					checkCorrectedIs(t, plain, 10, hard, c.n, plain, false)
				}
			}
		}
	}
	for _, sign := range []int64{1, -1} {
		checkCorrectedIs(t, clock(100, 0, 0), 10, 100, sign*maxOff, clock(100, 0, sign*maxOff), true)
		checkCorrectedIs(t, clock(100, 0, sign*maxOff), 10, 100, -sign*maxOff, clock(100, 0, 0), true)
		checkCorrectedIs(t, clock(100, 0, sign*maxOff), 10, 100, -sign*(maxOff+1), clock(100, 0, sign*maxOff), false)
		checkCorrectedIs(t, clock(100, 0, sign), 10, 100, -sign*(maxOff+1), clock(100, 0, sign), false)
	}
}

// What is still owed at hard counts, not what was owed at Hard.
func TestCorrectedOutOfOwed(t *testing.T) {
	for _, sign := range []int64{1, -1} {
		for paid := range int64(4) {
			c := clock(50, 7, sign*maxOff)
			hard := 50 + 10*paid
			shown := 7 + 10*paid + sign*paid
			checkCorrectedIs(t, c, 10, hard, sign*paid, clock(hard, shown, sign*maxOff), true)
			checkCorrectedIs(t, c, 10, hard, sign*(paid+1), c, false)
			checkCorrectedIs(t, c, 10, hard+9, sign*paid, clock(hard+9, shown+9, sign*maxOff), true)
			checkCorrectedIs(t, c, 10, hard+9, sign*(paid+1), c, false)
			checkCorrectedIs(t, c, 10, hard, sign*maxOff, c, false)
			checkCorrectedIs(t, c, 10, hard, sign*(paid-1), clock(hard, shown, sign*(maxOff-1)), true)
		}
		c := clock(50, 7, sign*4)
		checkCorrectedIs(t, c, 10, 79, sign*(maxOff-2), clock(79, 36+2*sign, sign*maxOff), true)
		checkCorrectedIs(t, c, 10, 79, sign*(maxOff-1), c, false)
		checkCorrectedIs(t, c, 10, 80, sign*(maxOff-1), clock(80, 37+3*sign, sign*maxOff), true)
		checkCorrectedIs(t, c, 10, 80, sign*maxOff, c, false)
	}
}

// A Value comes out of its range at MaxOff and one more, with what has been paid; it does not at the other end.
func TestCorrectedOutOfValue(t *testing.T) {
	for _, by := range []int64{0, 3, -3} {
		c := clock(0, maxOff-25, 5)
		checkCorrectedIs(t, c, 10, 23, by, clock(23, maxOff, 3+by), true)
		checkCorrectedIs(t, c, 10, 24, by, c, false)
		c = clock(0, maxOff-25, -5)
		checkCorrectedIs(t, c, 10, 27, by, clock(27, maxOff, -3+by), true)
		checkCorrectedIs(t, c, 10, 28, by, c, false)
		c = clock(0, maxOff-25, 0)
		checkCorrectedIs(t, c, 10, 25, by, clock(25, maxOff, by), true)
		checkCorrectedIs(t, c, 10, 26, by, c, false)
		c = clock(0, maxOff, 4)
		checkCorrectedIs(t, c, 10, 0, by, clock(0, maxOff, 4+by), true)
		checkCorrectedIs(t, c, 10, 1, by, c, false)
		checkCorrectedIs(t, c, 10, maxOff, by, c, false)
		c = clock(0, -maxOff, -4)
		checkCorrectedIs(t, c, 2, 0, by, clock(0, -maxOff, by-4), true)
		checkCorrectedIs(t, c, 2, 1, by, clock(1, 1-maxOff, by-4), true)
		checkCorrectedIs(t, c, 2, 2, by, clock(2, 1-maxOff, by-3), true)
		checkCorrectedIs(t, clock(0, -maxOff, maxOff), 2, maxOff, by, clock(maxOff, maxOff/2, maxOff/2+by), true)
	}
	// A debt that pays more by one shows one too many.
	c := clock(0, maxOff-10, 1)
	checkCorrectedIs(t, c, 10, 9, 0, clock(9, maxOff-1, 1), true)
	checkCorrectedIs(t, c, 10, 10, 0, c, false)
}

// checkSlewed is P8, in its own words, of one clock that is read at hards, which rise.
func checkSlewed(t *testing.T, c impl.Clock, slew int64, hards []int64) {
	t.Helper()
	shown := make([]int64, len(hards))
	for i, hard := range hards {
		at, is := impl.ReadAt(c, slew, hard)
		if !is {
			t.Fatalf("ReadAt(%+v, %d, %d) = %d, %v", c, slew, hard, at, is)
		}
		shown[i] = at
		for j := range i {
			checkPace(t, slew, hard-hards[j], at-shown[j], c, hards[j], hard)
		}
	}
	checkAtLast(t, c, slew)
}

// checkPace is of what the hardware counted and what a clock showed meanwhile.
func checkPace(t *testing.T, slew int64, ticks int64, shown int64, args ...any) {
	t.Helper()
	if shown < 0 {
		t.Fatalf("%+v, slew %d: goes back by %d", args, slew, shown)
	}
	// At most 1 in the slew, and 1: the part of ticks is held against the difference without any rounding.
	if apart := max(shown-ticks, ticks-shown) - 1; apart > 0 && slew*apart > ticks {
		t.Fatalf("%+v, slew %d: %d shown in %d ticks", args, slew, shown, ticks)
	}
}

// checkAtLast says that just what is owed is shown more, from the tick on at which it owes nothing.
func checkAtLast(t *testing.T, c impl.Clock, slew int64) {
	t.Helper()
	when, is := impl.PaidWhen(c, slew)
	if !is {
		if owed, _ := impl.OwedAt(c, slew, maxOff); owed == 0 {
			t.Fatalf("PaidWhen(%+v, %d) is false, and nothing is owed at MaxOff", c, slew)
		}
		return
	}
	for _, hard := range []int64{when, when + 1, when + slew, maxOff - 1, maxOff} {
		if hard < when || hard > maxOff {
			continue
		}
		shown, _ := impl.ReadAt(c, slew, hard)
		if owed, is := impl.OwedAt(c, slew, hard); !is || owed != 0 || shown != c.Value+(hard-c.Hard)+c.Owed {
			t.Fatalf("%+v, slew %d: %d shown and %d owed at %d", c, slew, shown, owed, hard)
		}
	}
	if owed, _ := impl.OwedAt(c, slew, when-1); when > c.Hard && owed == 0 {
		t.Fatalf("%+v, slew %d: nothing is owed ahead of %d", c, slew, when)
	}
}

// P8 of clocks that are read at one hard after the other, without any left out.
func TestSlewedClocksOfEachHard(t *testing.T) {
	for _, slew := range []int64{2, 3, 4, 5, 10, 33} {
		for owed := int64(-9); owed <= 9; owed++ {
			for _, c := range []impl.Clock{clock(0, 0, owed), clock(17, -maxOff, owed), clock(maxOff-120, maxOff, owed)} {
				var hards []int64
				for e := range int64(121) {
					hards = append(hards, c.Hard+e)
				}
				checkSlewed(t, c, slew, hards)
			}
		}
	}
}

// clock is a right one, with a right slew, and often at an edge.
func (p *picker) clock() (impl.Clock, int64) {
	far := func() int64 { return []int64{0, 1, 9, 1000, 1000000000, maxOff}[p.from(0, 5)] }
	hard := p.around(far())
	if hard < 0 {
		hard += maxOff
	}
	slew := []int64{2, 3, 10, maxSlew, p.from(2, 40), p.from(2, maxSlew)}[p.from(0, 5)]
	return clock(hard, p.around(far()), p.around(far())), slew
}

// hardOf is one from which the clock can be told; often near its Hard, at MaxOff, or near where the debt is paid.
func (p *picker) hardOf(c impl.Clock, slew int64) int64 {
	switch p.from(0, 4) {
	case 0:
		return min(maxOff, c.Hard+p.from(0, 3*slew))
	case 1:
		return max(c.Hard, maxOff-p.from(0, 3))
	case 2:
		size := max(c.Owed, -c.Owed)
		if size <= (maxOff-c.Hard)/slew {
			return min(maxOff, max(c.Hard, c.Hard+size*slew+p.from(-2, 2)))
		}
	}
	return p.from(c.Hard, maxOff)
}

// P8 of clocks of all sizes, each read at many hards.
func TestSlewedClocksOfAllSizes(t *testing.T) {
	p := picker{seed: 8}
	paid, notPaid := 0, 0
	for range 4000 {
		c, slew := p.clock()
		hards := []int64{c.Hard, maxOff}
		for range 12 {
			hard := p.hardOf(c, slew)
			hards = append(hards, hard, min(maxOff, hard+1))
		}
		slices.Sort(hards)
		checkSlewed(t, c, slew, hards)
		for _, hard := range hards {
			checkTold(t, c, slew, hard)
		}
		checkPaid(t, c, slew)
		if _, is := impl.PaidWhen(c, slew); is {
			paid++
		} else {
			notPaid++
		}
	}
	if paid < 1000 || notPaid < 500 {
		t.Errorf("%d clocks paid all, %d did not", paid, notPaid)
	}
}

// P8 at its limits: in ticks of which 1 in the slew is a whole number, and 1 more, the clock can be faster or
// slower by just that, and 1; and with a slew of 2 it can stand still for a tick, but for no more than one.
func TestSlewedClocksAtTheLimit(t *testing.T) {
	for _, slew := range []int64{2, 3, 10, maxSlew} {
		for _, sign := range []int64{1, -1} {
			for parts := range int64(20) {
				c := clock(40, 0, sign*100)
				from := 40 + 3*slew - 1
				ahead, _ := impl.ReadAt(c, slew, from)
				behind, is := impl.ReadAt(c, slew, from+parts*slew+1)
				if want := parts*slew + 1 + sign*(parts+1); !is || behind-ahead != want {
					t.Errorf("slew %d, %d parts: %d shown, want %d", slew, parts, behind-ahead, want)
				}
				checkSlewed(t, c, slew, []int64{40, from, from + parts*slew, from + parts*slew + 1})
			}
		}
	}
	c := clock(0, 0, -5)
	for hard := range int64(20) {
		checkToldIs(t, c, 2, hard, max((hard+1)/2, hard-5), min(0, hard/2-5))
	}
}

// P8 of a clock that is read and put right over many steps: nowhere does it go back or jump, nor does a
// correction itself, and at last it shows just what it owed, and all by which it was put right, more.
func TestSlewedClocksThatArePutRight(t *testing.T) {
	p := picker{seed: 88}
	put, refused, paid := 0, 0, 0
	for range 400 {
		c, slew := p.clock()
		// So that there is room to go on for a while.
		c.Hard, c.Value = p.from(0, 1000), p.from(-maxOff, 0)
		hards, shown := []int64{}, []int64{}
		first, all, hard := c, c.Owed, c.Hard
		for range 40 {
			hard += []int64{0, 1, p.from(0, 2*slew), p.from(0, 50*slew)}[p.from(0, 3)]
			by := p.around([]int64{0, 1, 20, 1000}[p.from(0, 3)])
			hards = append(hards, hard)
			at, _ := impl.ReadAt(c, slew, hard)
			shown = append(shown, at)
			checkTold(t, c, slew, hard)
			checkCorrected(t, c, slew, hard, by)
			next, is := impl.Corrected(c, slew, hard, by)
			if !is {
				refused++
				continue
			}
			put++
			checkPutRight(t, c, next, slew, hard, by)
			c, all = next, all+by
			for i := range hards {
				checkPace(t, slew, hard-hards[i], at-shown[i], first, c, hards[i], hard)
			}
			checkSlewed(t, c, slew, []int64{hard, hard + 1, hard + slew - 1, hard + slew, hard + 10*slew})
		}
		if when, is := impl.PaidWhen(c, slew); is {
			paid++
			checkToldIs(t, c, slew, when, first.Value+(when-first.Hard)+all, 0)
		}
	}
	if put < 10000 || refused < 100 || paid < 100 {
		t.Errorf("%d put right, %d refused, %d paid", put, refused, paid)
	}
}

// checkPutRight says that a correction shows nothing else, and owes just by more.
func checkPutRight(t *testing.T, c impl.Clock, next impl.Clock, slew int64, hard int64, by int64) {
	t.Helper()
	shown, _ := impl.ReadAt(c, slew, hard)
	owed, _ := impl.OwedAt(c, slew, hard)
	if !impl.ClockOk(next, slew) || next != clock(hard, shown, owed+by) {
		t.Fatalf("Corrected(%+v, %d, %d, %d) = %+v, shown %d, owed %d", c, slew, hard, by, next, shown, owed)
	}
	if then, is := impl.ReadAt(next, slew, hard); !is || then != shown {
		t.Fatalf("Corrected(%+v, %d, %d, %d) shows %d, not %d", c, slew, hard, by, then, shown)
	}
	if then, is := impl.OwedAt(next, slew, hard); !is || then != owed+by {
		t.Fatalf("Corrected(%+v, %d, %d, %d) owes %d, not %d", c, slew, hard, by, then, owed+by)
	}
}

// Whatever is asked of a clock at once: every edge of each number with every edge of the others.
func TestClocksAtEdges(t *testing.T) {
	ends := []int64{-maxOff - 1, -maxOff, -1, 0, 1, maxOff, maxOff + 1}
	for _, hard := range []int64{-1, 0, 1, maxOff / 2, maxOff - 1, maxOff, maxOff + 1} {
		for _, value := range ends {
			for _, owed := range append(ends, maxOff/2, -maxOff/2) {
				for _, slew := range []int64{1, 2, maxSlew, maxSlew + 1} {
					c := clock(hard, value, owed)
					checkPaid(t, c, slew)
					for _, at := range []int64{hard - 1, hard, hard + 1, hard + 2, maxOff - 1, maxOff, maxOff + 1} {
						checkTold(t, c, slew, at)
						for _, by := range ends {
							checkCorrected(t, c, slew, at, by)
						}
					}
				}
			}
		}
	}
}

// The least and the greatest int64 in every number, one alone, and each two of them, and all at once.
func TestClocksOfFurthestNumbers(t *testing.T) {
	furthest := []int64{math.MinInt64, math.MinInt64 + 1, math.MaxInt64 - 1, math.MaxInt64}
	for first := range 6 {
		for second := range 6 {
			for _, n := range furthest {
				for _, m := range furthest {
					asked := [6]int64{100, 1000, -3, 10, 115, 7}
					asked[first], asked[second] = n, m
					checkFurthest(t, asked, min(first, second) < 4)
				}
			}
		}
	}
	for _, n := range furthest {
		checkWrongClock(t, clock(n, n, n), n)
		checkCorrectedIs(t, clock(n, n, n), n, n, n, impl.Clock{}, false)
	}
}

// checkFurthest takes the fields of a clock, the slew, the hard and the by, in this order.
func checkFurthest(t *testing.T, asked [6]int64, wrongClock bool) {
	t.Helper()
	c, slew := clock(asked[0], asked[1], asked[2]), asked[3]
	checkTold(t, c, slew, asked[4])
	checkPaid(t, c, slew)
	if wrongClock {
		checkWrongClock(t, c, slew)
		checkCorrectedIs(t, c, slew, asked[4], asked[5], impl.Clock{}, false)
		return
	}
	checkCorrectedIs(t, c, slew, asked[4], asked[5], c, false)
}

// Clocks of all sizes, right ones and ones of which a number is anything at all.
func TestClocksOfAllSizes(t *testing.T) {
	p := picker{seed: 888}
	put := 0
	for range 40000 {
		c, slew := p.clock()
		hard := p.hardOf(c, slew)
		by := p.around([]int64{5, 1000000, maxOff, maxOff + 1}[p.from(0, 3)])
		checkTold(t, c, slew, hard)
		checkCorrected(t, c, slew, hard, by)
		checkPaid(t, c, slew)
		if _, is := impl.Corrected(c, slew, hard, by); is {
			put++
		}
		n := numbersFrom(p.seed, 1)[0]
		*[]*int64{&c.Hard, &c.Value, &c.Owed, &slew, &hard, &by}[p.from(0, 5)] = n
		checkTold(t, c, slew, hard)
		checkCorrected(t, c, slew, hard, by)
		checkPaid(t, c, slew)
	}
	if put < 8000 || put > 35000 {
		t.Errorf("%d were put right", put)
	}
}

// P19: the clock that is handed in stays, as do the numbers beside it, and no later call changes an answer.
func TestClocksStay(t *testing.T) {
	p := picker{seed: 8888}
	for range 500 {
		var clocks [3]impl.Clock
		var slews [3]int64
		for i := range clocks {
			clocks[i], slews[i] = p.clock()
		}
		held, by := clocks, p.around(maxOff)
		hard := p.hardOf(clocks[1], slews[1])
		put, is := impl.Corrected(clocks[1], slews[1], hard, by)
		want := put
		for i := range clocks {
			impl.ClockOk(clocks[i], slews[i])
			impl.ReadAt(clocks[i], slews[i], hard)
			impl.OwedAt(clocks[i], slews[i], hard)
			impl.Corrected(clocks[i], slews[i], hard, by)
			impl.Corrected(put, slews[i], hard, -by)
			impl.PaidWhen(clocks[i], slews[i])
		}
		if clocks != held || put != want {
			t.Fatalf("%+v were %+v; %+v was %+v", clocks, held, put, want)
		}
		if again, isAgain := impl.Corrected(clocks[1], slews[1], hard, by); again != want || isAgain != is {
			t.Fatalf("%+v, %v, and then %+v, %v", want, is, again, isAgain)
		}
		// Nor is the clock itself what is handed out where it is as it was.
		put.Hard, put.Value, put.Owed = -1, -1, -1
		if clocks != held {
			t.Fatalf("%+v were %+v", clocks, held)
		}
	}
}
