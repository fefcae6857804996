package tests

import (
	"math"
	"math/rand"
	"slices"
	"testing"

	"loop.example/g00775/impl"
)

// touch is what Touched is called with.
type touch struct {
	plan  impl.Plan
	trust impl.Trust
	at    int64
	cell  impl.Cell
	value int64
}

// touchAnswer is what Touched answers.
type touchAnswer struct {
	trust  impl.Trust
	cell   impl.Cell
	number int64
	code   int64
}

// knownTouches are some that nothing refuses, with their answers, as another program found them.
var knownTouches = []struct {
	touch  touch
	answer touchAnswer
}{
	{
		touch{planOf(1, 1), impl.Trust{}, 0, impl.Cell{Time: 0, Value: 0}, 0},
		touchAnswer{impl.Trust{Clock: 1, Read: 462304453910648377, Written: 462325086933547975}, impl.Cell{Time: 1, Value: 9477}, 1993, impl.CdOk},
	},
	{
		touch{planOf(1, 1), impl.Trust{Clock: 1, Written: 462325086933547975}, 0, impl.Cell{Time: 1, Value: 9477}, -1},
		touchAnswer{impl.Trust{Clock: 2, Read: 462325086933547975, Written: 924632107087156919}, impl.Cell{Time: 2, Value: 933}, 0, impl.CdOk},
	},
	{
		touch{planOf(9, 3, 2), impl.Trust{Clock: 2, Written: 1820470517149557403}, 4, impl.Cell{Time: 2, Value: 9548}, 500},
		touchAnswer{impl.Trust{Clock: 3, Read: 910257035132722193, Written: 2730710559244165065}, impl.Cell{Time: 3, Value: 1504}, 0, impl.CdOk},
	},
	{
		touch{planOf(9, 3, 2), impl.Trust{Clock: 300, Epoch: 4, Cursor: 1, Read: 11, Written: 12, NextRead: 13, NextWritten: 14}, 3, impl.Cell{Time: 299, Value: 0}, -1},
		touchAnswer{impl.Trust{Clock: 301, Epoch: 4, Cursor: 1, Read: 11, Written: 12, NextRead: 910283230138272882, NextWritten: 910290076316145907}, impl.Cell{Time: 301, Value: 2926}, 7782, impl.CdOk},
	},
	{
		touch{planOf(9, 3, 2), impl.Trust{Clock: 300, Epoch: 4, Cursor: 1, Read: 11, Written: 12, NextRead: 13, NextWritten: 14}, 4, impl.Cell{Time: 300, Value: 10006}, 10006},
		touchAnswer{impl.Trust{Clock: 301, Epoch: 4, Cursor: 1, Read: 910341852146924896, Written: 910334982346731752, NextRead: 13, NextWritten: 14}, impl.Cell{Time: 301, Value: 6676}, 4792, impl.CdOk},
	},
	{
		touch{planOf(77, 3, 2), impl.Trust{Clock: 99999, Epoch: 1000, Cursor: 2, Read: impl.MixMod - 1, Written: impl.MixMod - 1, NextRead: impl.MixMod - 1, NextWritten: impl.MixMod - 1}, 2, impl.Cell{Time: 99999, Value: 123}, 7},
		touchAnswer{impl.Trust{Clock: 100000, Epoch: 1000, Cursor: 2, Read: 2438616131570982367, Written: 2438632405202074495, NextRead: impl.MixMod - 1, NextWritten: impl.MixMod - 1}, impl.Cell{Time: 100000, Value: 7570}, 4030, impl.CdOk},
	},
	{
		touch{planOf(77, 3, 2), impl.Trust{Clock: 99999, Epoch: 1000, Cursor: 2, Read: impl.MixMod - 1, Written: impl.MixMod - 1, NextRead: impl.MixMod - 1, NextWritten: impl.MixMod - 1}, 1, impl.Cell{Time: 0, Value: 10006}, 0},
		touchAnswer{impl.Trust{Clock: 100000, Epoch: 1000, Cursor: 2, Read: impl.MixMod - 1, Written: impl.MixMod - 1, NextRead: 2410468747702841362, NextWritten: 2438592260142738481}, impl.Cell{Time: 100000, Value: 6037}, 1629, impl.CdOk},
	},
	{
		touch{planOf(impl.MaxKey, 8, 8, 8), impl.Trust{Clock: 50000, Epoch: 7, Cursor: 7, Read: impl.MixMod / 2, Written: impl.MixMod - 5, NextRead: 1, NextWritten: 2}, 23, impl.Cell{Time: 50000, Value: 5000}, -1},
		touchAnswer{impl.Trust{Clock: 50001, Epoch: 7, Cursor: 7, Read: 3130108288016802009, Written: 824268701892044564, NextRead: 1, NextWritten: 2}, impl.Cell{Time: 50001, Value: 6463}, 3134, impl.CdOk},
	},
	{
		touch{planOf(impl.MaxKey, 8, 8, 8), impl.Trust{Clock: 50000, Epoch: 7, Cursor: 7, Read: impl.MixMod / 2, Written: impl.MixMod - 5, NextRead: 1, NextWritten: 2}, 16, impl.Cell{Time: 1, Value: 5000}, 1},
		touchAnswer{impl.Trust{Clock: 50001, Epoch: 7, Cursor: 7, Read: impl.MixMod / 2, Written: impl.MixMod - 5, NextRead: 809941571453901404, NextWritten: 824002553505994500}, impl.Cell{Time: 50001, Value: 2655}, 1176, impl.CdOk},
	},
	{
		touch{planOf(500000, 1, 8, 7, 8), impl.Trust{Clock: 99999, Epoch: 3, Cursor: 6, Read: impl.MixMod - 1, Written: impl.MixMod / 2, NextRead: impl.MixMod - 2, NextWritten: impl.MixMod/2 + 1}, 14, impl.Cell{Time: 12345, Value: 10006}, 10005},
		touchAnswer{impl.Trust{Clock: 100000, Epoch: 3, Cursor: 6, Read: impl.MixMod - 1, Written: impl.MixMod / 2, NextRead: 2629459135174619154, NextWritten: 348259063474442173}, impl.Cell{Time: 100000, Value: 2463}, 7101, impl.CdOk},
	},
}

// midTouch is one that nothing refuses, of a region that is neither the first one nor the last one, at a sector behind the Cursor.
func midTouch() touch {
	return touch{planOf(9, 3, 4, 2), midTrust, 4, impl.Cell{Time: 200, Value: 77}, 500}
}

func (x touch) answered() touchAnswer {
	trust, cell, number, code := impl.Touched(x.plan, x.trust, x.at, x.cell, x.value)
	return touchAnswer{trust, cell, number, code}
}

func wantTouch(t *testing.T, x touch, want touchAnswer) {
	t.Helper()
	if got := x.answered(); got != want {
		t.Errorf("Touched of %+v is %+v, want %+v", x, got, want)
	}
}

func wantBadTouch(t *testing.T, x touch) {
	t.Helper()
	wantTouch(t, x, touchAnswer{code: 1})
}

// wantLeftAlone asks for what is neither done nor noticed: the trust and the cell stay as they are.
func wantLeftAlone(t *testing.T, x touch, code int64) {
	t.Helper()
	wantTouch(t, x, touchAnswer{trust: x.trust, cell: x.cell, code: code})
}

func wantCaught(t *testing.T, x touch) {
	t.Helper()
	failed := x.trust
	failed.Failed = true
	wantTouch(t, x, touchAnswer{trust: failed, cell: x.cell, code: 4})
}

// wantTouchDone is promise 8 of one touch; the trust stays right.
func wantTouchDone(t *testing.T, x touch) {
	t.Helper()
	want := x.doneByWords()
	wantTouch(t, x, want)
	region, _ := x.placeByWords()
	wantTrustOk(t, x.plan, region, want.trust, true)
	wantValueIn(t, x.plan.Key, x.at, x.cell, want.number)
	if x.value >= 0 {
		wantKept(t, x.plan.Key, x.at, x.value, want.cell)
	} else {
		wantKept(t, x.plan.Key, x.at, want.number, want.cell)
	}
}

// placeByWords is the region of the sector and its number within that, -1 and -1 where there is none. The plan must be right.
func (x touch) placeByWords() (region, number int64) {
	number = x.at
	for region, count := range x.plan.Counts {
		if number >= 0 && number < count {
			return int64(region), number
		}
		number -= count
	}
	return -1, -1
}

// doneByWords is what the chapter tells of a touch that nothing refuses, in numbers without a limit.
func (x touch) doneByWords() touchAnswer {
	key, after := x.plan.Key, x.trust
	seen := (x.cell.Value - bigStream(key, x.at, x.cell.Time) + 10007) % 10007
	value := x.value
	if value == -1 {
		value = seen
	}
	after.Clock = x.trust.Clock + 1
	cell := bigCell(key, x.at, after.Clock, value)
	tagRead := bigMix(key, []int64{2, x.at, x.cell.Time, x.cell.Value})
	tagWritten := bigMix(key, []int64{2, x.at, cell.Time, cell.Value})
	if _, number := x.placeByWords(); number < x.trust.Cursor {
		after.NextRead = bigAdd(after.NextRead, tagRead)
		after.NextWritten = bigAdd(after.NextWritten, tagWritten)
	} else {
		after.Read = bigAdd(after.Read, tagRead)
		after.Written = bigAdd(after.Written, tagWritten)
	}
	return touchAnswer{after, cell, seen, 0}
}

// answeredByWords is what the chapter tells of any touch of a plan that is right.
func (x touch) answeredByWords() touchAnswer {
	region, _ := x.placeByWords()
	cellRight := x.cell.Time >= 0 && x.cell.Time <= 100000 && x.cell.Value >= 0 && x.cell.Value <= 10006
	if region < 0 || !rightByWords(x.trust, x.plan.Counts[region]) || !cellRight || x.value < -1 || x.value > 10006 {
		return touchAnswer{code: 1}
	}
	left := touchAnswer{trust: x.trust, cell: x.cell}
	switch {
	case x.trust.Failed:
		left.code = 2
	case x.trust.Clock == 100000:
		left.code = 3
	case x.cell.Time > x.trust.Clock:
		left.code, left.trust.Failed = 4, true
	default:
		return x.doneByWords()
	}
	return left
}

func TestTouchCodes(t *testing.T) {
	codes := []int64{impl.CdOk, impl.CdBad, impl.CdFailed, impl.CdSpent, impl.CdCaught, impl.CdPassed, impl.CdLost}
	if !slices.Equal(codes, []int64{0, 1, 2, 3, 4, 5, 6}) {
		t.Fatal(codes)
	}
}

func TestTouchesByHand(t *testing.T) {
	for _, known := range knownTouches {
		wantTouch(t, known.touch, known.answer)
		wantTouchDone(t, known.touch)
	}
}

// TestWhatIsTouchedIsReadAndWrittenAnew is promise 8, of each sector of some plans with each Cursor that its region may have.
func TestWhatIsTouchedIsReadAndWrittenAnew(t *testing.T) {
	draw := rand.New(rand.NewSource(17))
	for _, known := range knownPlans {
		p := planOf(draw.Int63n(impl.MaxKey)+1, known.counts...)
		for at, region := range known.regions {
			for cursor := range known.counts[region] {
				trust := someTrust(draw, cursor)
				for _, value := range append([]int64{-1}, rightValues...) {
					cell := impl.Cell{Time: draw.Int63n(trust.Clock + 1), Value: draw.Int63n(impl.ValueMod)}
					wantTouchDone(t, touch{p, trust, int64(at), cell, value})
				}
			}
		}
	}
}

// someTrust draws one that may be touched.
func someTrust(draw *rand.Rand, cursor int64) impl.Trust {
	x := impl.Trust{
		Clock:   draw.Int63n(impl.MaxTime),
		Epoch:   draw.Int63n(impl.MaxEpoch + 1),
		Cursor:  cursor,
		Read:    draw.Int63n(impl.MixMod),
		Written: draw.Int63n(impl.MixMod),
	}
	if cursor > 0 {
		x.NextRead, x.NextWritten = draw.Int63n(impl.MixMod), draw.Int63n(impl.MixMod)
	}
	return x
}

// TestTouchingComesToTheSumsOfItsEpoch has the sector just behind the Cursor, the one at it and the one ahead of it, in a later region.
func TestTouchingComesToTheSumsOfItsEpoch(t *testing.T) {
	p := planOf(9, 3, 4, 2)
	for at, next := range map[int64]bool{3: true, 4: true, 5: false, 6: false} {
		x := touch{p, midTrust, at, impl.Cell{Time: 300, Value: 77}, 500}
		got := x.answered()
		read := impl.TagOf(9, impl.TripleIn(at, x.cell))
		written := impl.TagOf(9, impl.TripleIn(at, impl.CellOf(9, at, 301, 500)))
		want := impl.Trust{Clock: 301, Epoch: 4, Cursor: 2, Read: 11, Written: 12, NextRead: 13, NextWritten: 14}
		if next {
			want.NextRead, want.NextWritten = impl.AddOf(13, read), impl.AddOf(14, written)
		} else {
			want.Read, want.Written = impl.AddOf(11, read), impl.AddOf(12, written)
		}
		if got.trust != want || got.code != impl.CdOk {
			t.Errorf("touching %d leaves %+v, want %+v", at, got.trust, want)
		}
	}
}

// TestAtTheCursor0NothingIsBehind touches all sectors of new trusts, of which the next sums stay 0.
func TestAtTheCursor0NothingIsBehind(t *testing.T) {
	for _, known := range knownPlans {
		p := planOf(77, known.counts...)
		for at, region := range known.regions {
			trust, cells := impl.NewTrust(p, region)
			x := touch{p, trust, int64(at), cells[int64(at)-known.firsts[region]], 5}
			wantTouchDone(t, x)
			got := x.answered()
			if got.trust.NextRead != 0 || got.trust.NextWritten != 0 || got.number != 0 {
				t.Errorf("touching %d of a new trust leaves %+v, and read %d", at, got.trust, got.number)
			}
		}
	}
}

// TestTheSumsGoRound has each sum at its edges when a tag comes to it.
func TestTheSumsGoRound(t *testing.T) {
	for _, read := range rightSums {
		for _, written := range rightSums {
			for _, at := range []int64{4, 5} {
				x := midTouch()
				x.at = at
				x.trust.Read, x.trust.Written, x.trust.NextRead, x.trust.NextWritten = read, written, written, read
				wantTouchDone(t, x)
			}
		}
	}
}

// TestEveryValueIsReadAgain writes every value there is, and then touches the cell twice without one.
func TestEveryValueIsReadAgain(t *testing.T) {
	for value := range int64(impl.ValueMod) {
		x := midTouch()
		x.value = value
		first := x.answered()
		x.trust, x.cell, x.value = first.trust, first.cell, -1
		second := x.answered()
		x.trust, x.cell = second.trust, second.cell
		third := x.answered()
		if first.code != impl.CdOk || second.code != impl.CdOk || third.code != impl.CdOk {
			t.Fatal(value, first, second, third)
		}
		if second.number != value || third.number != value || third.cell != impl.CellOf(9, 4, 303, value) {
			t.Fatalf("%d was written, %d and %d read, and then %v is in the cell", value, second.number, third.number, third.cell)
		}
	}
}

// TestEveryValueIsReadAsItStands reads every value a cell can hold, of the same place and time.
func TestEveryValueIsReadAsItStands(t *testing.T) {
	for value := range int64(impl.ValueMod) {
		x := midTouch()
		x.cell = impl.Cell{Time: 123, Value: value}
		x.value = -1
		wantTouchDone(t, x)
		if t.Failed() {
			t.FailNow()
		}
	}
}

// TestTouchesInARow goes on from a new trust: the sums are those of all that was read and all that was written, and what is written but not read is what the cells hold.
func TestTouchesInARow(t *testing.T) {
	draw := rand.New(rand.NewSource(18))
	for _, known := range knownPlans {
		p := planOf(draw.Int63n(impl.MaxKey)+1, known.counts...)
		for region, first := range known.firsts {
			wantRow(t, draw, p, int64(region), first)
		}
	}
}

func wantRow(t *testing.T, draw *rand.Rand, p impl.Plan, region, first int64) {
	t.Helper()
	trust, cells := impl.NewTrust(p, region)
	values := make([]int64, len(cells))
	var read, written []impl.Triple
	for i, c := range cells {
		written = append(written, impl.TripleIn(first+int64(i), c))
	}
	for range 100 {
		i := draw.Intn(len(cells))
		at, value := first+int64(i), draw.Int63n(impl.ValueMod+1)-1
		got := touch{p, trust, at, cells[i], value}.answered()
		if got.code != impl.CdOk || got.number != values[i] || got.trust.Clock != trust.Clock+1 {
			t.Fatalf("the sector %d holds %d; with %+v a touch answers %+v", at, values[i], trust, got)
		}
		read = append(read, impl.TripleIn(at, cells[i]))
		written = append(written, impl.TripleIn(at, got.cell))
		trust, cells[i] = got.trust, got.cell
		if value >= 0 {
			values[i] = value
		}
	}
	wantSum(t, p.Key, read, trust.Read)
	wantSum(t, p.Key, written, trust.Written)
	for i, c := range cells {
		read = append(read, impl.TripleIn(first+int64(i), c))
	}
	wantSameBag(t, read, written, true)
}

// TestTouchClock has the last time that may be written at, and the one after which nothing is.
func TestTouchClock(t *testing.T) {
	x := midTouch()
	for _, clock := range []int64{200, 201, 50000, impl.MaxTime - 2, impl.MaxTime - 1} {
		x.trust.Clock = clock
		wantTouchDone(t, x)
	}
	got := x.answered()
	if got.trust.Clock != impl.MaxTime || got.cell.Time != impl.MaxTime {
		t.Errorf("one time is left: %+v", got)
	}
	x.trust, x.cell = got.trust, got.cell
	for _, value := range []int64{-1, 0, 500} {
		for _, time := range rightTimes {
			x.value, x.cell.Time = value, time
			wantLeftAlone(t, x, impl.CdSpent)
		}
	}
	x.trust.Clock = impl.MaxTime + 1
	wantBadTouch(t, x)
}

// TestTouchedCellsAreNotLaterThanTheClock has the Time of the Cell at the Clock and one more than it.
func TestTouchedCellsAreNotLaterThanTheClock(t *testing.T) {
	for _, clock := range []int64{0, 1, 2, 300, 50000, impl.MaxTime - 2, impl.MaxTime - 1} {
		for _, at := range []int64{3, 4, 5, 6} {
			for _, value := range []int64{-1, 0, impl.ValueMod - 1} {
				x := touch{planOf(9, 3, 4, 2), midTrust, at, impl.Cell{Time: clock, Value: 77}, value}
				x.trust.Clock = clock
				wantTouchDone(t, x)
				x.cell.Time = 0
				wantTouchDone(t, x)
				x.cell.Time = clock + 1
				wantCaught(t, x)
				x.cell.Time = impl.MaxTime
				wantCaught(t, x)
			}
		}
	}
}

// TestWhatIsCaughtStaysCaught goes on with a trust that failed just now, with cells that would be taken otherwise.
func TestWhatIsCaughtStaysCaught(t *testing.T) {
	x := midTouch()
	x.cell.Time = 301
	got := x.answered()
	if got.code != impl.CdCaught || !got.trust.Failed {
		t.Fatal(got)
	}
	x.trust = got.trust
	wantLeftAlone(t, x, impl.CdFailed)
	x.cell.Time = 200
	for range 3 {
		wantLeftAlone(t, x, impl.CdFailed)
		x.trust = x.answered().trust
	}
	x.trust.Failed = false
	wantTouchDone(t, x)
}

func TestTouchValues(t *testing.T) {
	x := midTouch()
	for _, value := range append([]int64{-1}, rightValues...) {
		x.value = value
		wantTouchDone(t, x)
	}
	for _, value := range wrongValues {
		if value != -1 {
			x.value = value
			wantBadTouch(t, x)
		}
	}
	for _, value := range []int64{-2, -3, impl.ValueMod, impl.ValueMod + 1, impl.MaxTime} {
		x.value = value
		wantBadTouch(t, x)
	}
}

// brokenTouches are one touch, with one thing about it not right each.
func brokenTouches(x touch) []touch {
	broken := []touch{x, x, x, x, x, x, x, x, x}
	broken[0].plan.Key = 0
	broken[1].plan.Counts = append(slices.Clone(x.plan.Counts), 9)
	broken[2].at = -1
	broken[3].at = together(x.plan.Counts)
	broken[4].trust.Epoch = impl.MaxEpoch + 1
	broken[5].trust.Cursor = 8
	broken[6].cell.Value = impl.ValueMod
	broken[7].value = -2
	broken[8].value = impl.ValueMod
	return broken
}

// TestTheOrderOfTheTouchCodes puts together what refuses a touch in all ways there are. Spent and caught is one only where the cell is not right, as no Time is more than MaxTime.
func TestTheOrderOfTheTouchCodes(t *testing.T) {
	for _, failed := range []bool{false, true} {
		for _, clock := range []int64{300, impl.MaxTime} {
			for _, time := range []int64{200, 300, 301, impl.MaxTime, impl.MaxTime + 1} {
				x := midTouch()
				x.trust.Failed, x.trust.Clock, x.cell.Time = failed, clock, time
				switch {
				case time > impl.MaxTime:
					wantBadTouch(t, x)
				case failed:
					wantLeftAlone(t, x, impl.CdFailed)
				case clock == impl.MaxTime:
					wantLeftAlone(t, x, impl.CdSpent)
				case time > clock:
					wantCaught(t, x)
				default:
					wantTouchDone(t, x)
				}
				for _, broken := range brokenTouches(x) {
					wantBadTouch(t, broken)
				}
			}
		}
	}
}

func TestTouchesOfNoPlan(t *testing.T) {
	for _, p := range wrongPlans() {
		for at := int64(-2); at <= impl.MaxSectors+1; at++ {
			for _, trust := range []impl.Trust{{}, {Clock: 3, Written: 5}, {Failed: true}, {Clock: impl.MaxTime}} {
				wantBadTouch(t, touch{p, trust, at, impl.Cell{}, -1})
				wantBadTouch(t, touch{p, trust, at, impl.Cell{Time: 4, Value: 4}, 4})
			}
		}
	}
}

func TestTouchesOfNoSector(t *testing.T) {
	for _, known := range knownPlans {
		p := planOf(77, known.counts...)
		sectors := int64(len(known.regions))
		for at := sectors; at <= 2*impl.MaxSectors; at++ {
			wantBadTouch(t, touch{p, impl.Trust{}, at, impl.Cell{}, -1})
		}
		for _, at := range wrongNumbers {
			wantBadTouch(t, touch{p, impl.Trust{}, at, impl.Cell{}, -1})
			wantBadTouch(t, touch{p, impl.Trust{Failed: true}, at, impl.Cell{}, 5})
		}
		wantTouchDone(t, touch{p, impl.Trust{}, 0, impl.Cell{}, -1})
		wantTouchDone(t, touch{p, impl.Trust{}, sectors - 1, impl.Cell{}, -1})
	}
}

func TestTouchesOfAWrongTrust(t *testing.T) {
	for _, field := range trustFields() {
		for _, failed := range []bool{false, true} {
			for _, wrong := range field.wrong {
				x := midTouch()
				x.trust.Failed = failed
				*field.of(&x.trust) = wrong
				wantBadTouch(t, x)
			}
		}
	}
	for _, cursor := range []int64{math.MinInt64, -1, 4, 5, 8, math.MaxInt64} {
		x := midTouch()
		x.trust.Cursor = cursor
		wantBadTouch(t, x)
	}
	for _, trust := range []impl.Trust{{NextRead: 1}, {NextWritten: 1}, {NextRead: 13, NextWritten: 14, Failed: true}} {
		x := midTouch()
		x.trust = trust
		x.cell.Time = 0
		wantBadTouch(t, x)
	}
}

// TestTouchesAskForTheSectorsOwnRegion has trusts that are right for another region alone.
func TestTouchesAskForTheSectorsOwnRegion(t *testing.T) {
	p := planOf(9, 3, 1, 2)
	for cursor, right := range [][]bool{
		{true, true, true, true, true, true},
		{true, true, true, false, true, true},
		{true, true, true, false, false, false},
		{false, false, false, false, false, false},
	} {
		for at := range right {
			x := touch{p, impl.Trust{Cursor: int64(cursor)}, int64(at), impl.Cell{}, 5}
			if right[at] {
				wantTouchDone(t, x)
			} else {
				wantBadTouch(t, x)
			}
		}
	}
}

func TestTouchesOfAWrongCell(t *testing.T) {
	for _, c := range wrongCells() {
		for _, value := range []int64{-1, 0, 500} {
			x := midTouch()
			x.cell, x.value = c, value
			wantBadTouch(t, x)
			x.trust.Failed = true
			wantBadTouch(t, x)
			x.trust.Failed, x.trust.Clock = false, impl.MaxTime
			wantBadTouch(t, x)
		}
	}
}

// TestTouchesOfAnyNumbers holds Touched against the chapter's words, of numbers at and past all limits.
func TestTouchesOfAnyNumbers(t *testing.T) {
	draw := rand.New(rand.NewSource(19))
	counts := map[int64]int{}
	for range 100000 {
		x := anyTouch(draw)
		want := x.answeredByWords()
		counts[want.code]++
		wantTouch(t, x, want)
		if t.Failed() {
			t.FailNow()
		}
	}
	for code := range int64(5) {
		if counts[code] < 1000 {
			t.Fatal(counts)
		}
	}
}

// anyTouch draws one of a plan that is right; all else about it is right or not, and each limit is met often.
func anyTouch(draw *rand.Rand) touch {
	known := knownPlans[draw.Intn(len(knownPlans))]
	at := draw.Intn(len(known.regions))
	x := touch{
		plan:  planOf(draw.Int63n(impl.MaxKey)+1, known.counts...),
		trust: anyTrust(draw, known.counts[known.regions[at]]),
		at:    int64(at),
		cell:  impl.Cell{Time: draw.Int63n(impl.MaxTime + 1), Value: draw.Int63n(impl.ValueMod)},
		value: draw.Int63n(impl.ValueMod+1) - 1,
	}
	if x.trust.Cursor == 0 && draw.Intn(4) != 0 {
		x.trust.NextRead, x.trust.NextWritten = 0, 0
	}
	if draw.Intn(4) != 0 {
		x.trust.Failed = false
	}
	if draw.Intn(8) == 0 {
		x.trust.Clock = impl.MaxTime - draw.Int63n(2)
	}
	if draw.Intn(2) == 0 {
		x.cell.Time = min(max(x.trust.Clock+draw.Int63n(3)-1, 0), impl.MaxTime)
	}
	switch draw.Intn(12) {
	case 0:
		x.at = anyNumber(draw, int64(len(known.regions))-1)
	case 1:
		x.cell.Time = anyNumber(draw, impl.MaxTime)
	case 2:
		x.cell.Value = anyNumber(draw, impl.ValueMod-1)
	case 3:
		x.value = anyNumber(draw, impl.ValueMod-1)
	}
	return x
}

// TestTouchesLeaveTheirPlan gives Counts with spare room behind them.
func TestTouchesLeaveTheirPlan(t *testing.T) {
	for _, counts := range [][]int64{{3, 4, 2, 5, 8, 8}, {8, 8, 8, 1, 9, 7}, {0, 9, -1, 4, 4, 4}} {
		for many := range len(counts) + 1 {
			given := slices.Clone(counts)
			x := midTouch()
			x.plan = impl.Plan{Key: 9, Counts: given[:many]}
			for x.at = int64(-1); x.at <= impl.MaxSectors; x.at++ {
				x.answered()
			}
			if !slices.Equal(given, counts) {
				t.Fatalf("%v became %v", counts, given)
			}
		}
	}
}

// TestTouchesKeepNothing touches as before after others that were refused, each for a reason of its own.
func TestTouchesKeepNothing(t *testing.T) {
	x := midTouch()
	want := x.doneByWords()
	failed, spent, late := x, x, x
	failed.trust.Failed = true
	spent.trust.Clock = impl.MaxTime
	late.cell.Time = 301
	for range 3 {
		wantTouch(t, x, want)
		wantLeftAlone(t, failed, impl.CdFailed)
		wantLeftAlone(t, spent, impl.CdSpent)
		wantCaught(t, late)
		for _, broken := range brokenTouches(x) {
			wantBadTouch(t, broken)
		}
	}
	if x.trust != midTrust || x.cell != (impl.Cell{Time: 200, Value: 77}) {
		t.Fatal(x)
	}
}
