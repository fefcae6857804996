package tests

import (
	"math"
	"math/rand"
	"testing"

	"loop.example/g00775/impl"
)

// knownCells are a key, a place, a time and a value each, with the value as it is hidden there, as another program found it.
var knownCells = []struct{ key, at, time, value, hidden int64 }{
	{1, 0, 0, 0, 8014},
	{1, 0, 0, 10006, 8013},
	{9, 4, 30, 123, 600},
	{9, 4, 30, 9529, 10006},
	{9, 4, 30, 9530, 0},
	{77, 0, 1, 0, 8314},
	{77, 23, 100000, 10006, 9587},
	{impl.MaxKey, 0, 0, 5000, 2959},
	{impl.MaxKey, 23, 100000, 0, 696},
	{1, 23, 0, 1, 3085},
	{2, 0, 100000, 1, 4738},
	{2, 1, 42, 0, 0},
	{17, 3, 29, 0, 10006},
	{17, 3, 29, 1, 0},
}

// bigCell is a cell whose value is hidden by a mixing without a limit.
func bigCell(key, at, time, value int64) impl.Cell {
	return impl.Cell{Time: time, Value: (value + bigStream(key, at, time)) % 10007}
}

func edgeCells() []impl.Cell {
	var list []impl.Cell
	for _, time := range rightTimes {
		for _, value := range rightValues {
			list = append(list, impl.Cell{Time: time, Value: value})
		}
	}
	return list
}

// wrongCells are those of which one field is wrong, and those of which both are.
func wrongCells() []impl.Cell {
	var list []impl.Cell
	for _, value := range wrongValues {
		for _, time := range rightTimes {
			list = append(list, impl.Cell{Time: time, Value: value})
		}
		for _, time := range wrongTimes {
			list = append(list, impl.Cell{Time: time, Value: value})
		}
	}
	for _, time := range wrongTimes {
		for _, value := range rightValues {
			list = append(list, impl.Cell{Time: time, Value: value})
		}
	}
	return list
}

func wantCellOk(t *testing.T, c impl.Cell, want bool) {
	t.Helper()
	if got := impl.CellOk(c); got != want {
		t.Errorf("CellOk(%v) = %t, want %t", c, got, want)
	}
}

func wantCell(t *testing.T, key, at, time, value int64, want impl.Cell) {
	t.Helper()
	if got := impl.CellOf(key, at, time, value); got != want {
		t.Errorf("CellOf(%d, %d, %d, %d) = %v, want %v", key, at, time, value, got, want)
	}
}

func wantValueIn(t *testing.T, key, at int64, c impl.Cell, want int64) {
	t.Helper()
	if got := impl.ValueIn(key, at, c); got != want {
		t.Errorf("ValueIn(%d, %d, %v) = %d, want %d", key, at, c, got, want)
	}
}

func wantTripleIn(t *testing.T, at int64, c impl.Cell, want impl.Triple) {
	t.Helper()
	if got := impl.TripleIn(at, c); got != want {
		t.Errorf("TripleIn(%d, %v) = %v, want %v", at, c, got, want)
	}
}

// wantKept puts a value into a cell that is known, and takes it out again.
func wantKept(t *testing.T, key, at, value int64, c impl.Cell) {
	t.Helper()
	wantCell(t, key, at, c.Time, value, c)
	wantCellOk(t, c, true)
	wantValueIn(t, key, at, c, value)
	wantTripleIn(t, at, c, impl.Triple{At: at, Time: c.Time, Value: c.Value})
}

// wantNoValueIn asks a cell for its value where there is none, and puts the same numbers into one.
func wantNoValueIn(t *testing.T, key, at int64, c impl.Cell) {
	t.Helper()
	wantValueIn(t, key, at, c, -1)
	wantCell(t, key, at, c.Time, c.Value, impl.Cell{})
}

func TestCellsByHand(t *testing.T) {
	for _, known := range knownCells {
		wantKept(t, known.key, known.at, known.value, impl.Cell{Time: known.time, Value: known.hidden})
	}
}

// TestARightCellMayBeTheZeroCell has a place and a value that a key hides as 0 at the time 0; so the zero Cell is taken out of as any other one.
func TestARightCellMayBeTheZeroCell(t *testing.T) {
	wantKept(t, 809, 0, 0, impl.Cell{})
	wantKept(t, 1, 0, 10007-8014, impl.Cell{})
	wantValueIn(t, 9, 4, impl.Cell{}, (10007-bigStream(9, 4, 0))%10007)
}

func TestCellOkEdges(t *testing.T) {
	for _, c := range edgeCells() {
		wantCellOk(t, c, true)
	}
	for _, c := range wrongCells() {
		wantCellOk(t, c, false)
	}
	wantCellOk(t, impl.Cell{}, true)
	wantCellOk(t, impl.Cell{Time: impl.MaxTime, Value: impl.ValueMod - 1}, true)
	wantCellOk(t, impl.Cell{Time: impl.MaxTime + 1, Value: impl.ValueMod - 1}, false)
	wantCellOk(t, impl.Cell{Time: impl.MaxTime, Value: impl.ValueMod}, false)
	wantCellOk(t, impl.Cell{Time: -1}, false)
	wantCellOk(t, impl.Cell{Value: -1}, false)
}

// TestCellOkSetsTimeAndValueTheirOwnLimits has numbers that are a time, but no value.
func TestCellOkSetsTimeAndValueTheirOwnLimits(t *testing.T) {
	for _, number := range []int64{impl.ValueMod, impl.ValueMod + 1, 50000, impl.MaxTime} {
		wantCellOk(t, impl.Cell{Time: number, Value: 3}, true)
		wantCellOk(t, impl.Cell{Time: 3, Value: number}, false)
	}
}

// TestWhatIsInACellIsWhatWasPutThere is promise 6, of all that is right at the edges.
func TestWhatIsInACellIsWhatWasPutThere(t *testing.T) {
	for _, key := range rightKeys {
		for _, x := range edgeTriples() {
			c := bigCell(key, x.At, x.Time, x.Value)
			wantKept(t, key, x.At, x.Value, c)
			wantCell(t, key, x.At, x.Time, x.Value, impl.Cell{Time: x.Time, Value: impl.Hidden(key, x.At, x.Time, x.Value)})
			wantValueIn(t, key, x.At, impl.Cell{Time: x.Time, Value: x.Value}, impl.Shown(key, x.At, x.Time, x.Value))
		}
	}
}

// TestEveryValueIsInItsCell is promise 6, of every value there is, both ways.
func TestEveryValueIsInItsCell(t *testing.T) {
	for _, known := range knownCells {
		for value := range int64(impl.ValueMod) {
			c := impl.CellOf(known.key, known.at, known.time, value)
			if c.Time != known.time || !impl.CellOk(c) {
				t.Fatalf("with the key %d, %d at %d and %d is in %v", known.key, value, known.at, known.time, c)
			}
			wantValueIn(t, known.key, known.at, c, value)
			standing := impl.Cell{Time: known.time, Value: value}
			wantCell(t, known.key, known.at, known.time, impl.ValueIn(known.key, known.at, standing), standing)
			if t.Failed() {
				t.FailNow()
			}
		}
	}
}

func TestEveryPlaceAndTimeHasCells(t *testing.T) {
	draw := rand.New(rand.NewSource(13))
	for at := range int64(impl.MaxSectors) {
		for time := int64(at); time <= impl.MaxTime; time += impl.MaxSectors {
			key, value := draw.Int63n(impl.MaxKey)+1, draw.Int63n(impl.ValueMod)
			wantKept(t, key, at, value, bigCell(key, at, time, value))
			if t.Failed() {
				t.FailNow()
			}
		}
	}
}

// TestACellIsOfItsKeyItsPlaceAndItsTime looks into a cell as another one, where something else is shown.
func TestACellIsOfItsKeyItsPlaceAndItsTime(t *testing.T) {
	c := impl.CellOf(9, 4, 30, 123)
	wantValueIn(t, 9, 4, c, 123)
	for _, other := range []int64{
		impl.ValueIn(10, 4, c),
		impl.ValueIn(9, 5, c),
		impl.ValueIn(9, 4, impl.Cell{Time: 31, Value: c.Value}),
		impl.ValueIn(9, 4, impl.Cell{Time: 30, Value: c.Value + 1}),
	} {
		if other == 123 || other < 0 || other >= impl.ValueMod {
			t.Errorf("another cell shows %d", other)
		}
	}
	wantValueIn(t, 9, 4, impl.Cell{Time: 30, Value: c.Value + 1}, 124)
	wantValueIn(t, 10, 4, c, (600+10007-bigStream(10, 4, 30))%10007)
	wantValueIn(t, 9, 5, c, (600+10007-bigStream(9, 5, 30))%10007)
	wantValueIn(t, 9, 4, impl.Cell{Time: 31, Value: c.Value}, (600+10007-bigStream(9, 4, 31))%10007)
}

func TestTripleInTellsTheCellAsItStands(t *testing.T) {
	for _, x := range edgeTriples() {
		wantTripleIn(t, x.At, impl.Cell{Time: x.Time, Value: x.Value}, x)
	}
	wantTripleIn(t, 3, impl.Cell{}, impl.Triple{At: 3})
	wantTripleIn(t, 4, impl.Cell{Time: 30, Value: 600}, impl.Triple{At: 4, Time: 30, Value: 600})
}

func TestTripleInOfNoRightTriple(t *testing.T) {
	for _, x := range oneFieldWrong() {
		wantTripleIn(t, x.At, impl.Cell{Time: x.Time, Value: x.Value}, impl.Triple{})
	}
	for _, c := range wrongCells() {
		for _, at := range rightAts {
			wantTripleIn(t, at, c, impl.Triple{})
		}
		for _, at := range wrongAts {
			wantTripleIn(t, at, c, impl.Triple{})
		}
	}
}

func TestCellsAtTheLastPlaceAndOneMore(t *testing.T) {
	c := bigCell(9, impl.MaxSectors-1, 30, 123)
	wantKept(t, 9, impl.MaxSectors-1, 123, c)
	for _, at := range []int64{-1, impl.MaxSectors} {
		wantNoValueIn(t, 9, at, c)
		wantTripleIn(t, at, c, impl.Triple{})
	}
}

func TestCellsWithoutAKey(t *testing.T) {
	for _, key := range wrongKeys {
		for _, c := range edgeCells() {
			for _, at := range rightAts {
				wantNoValueIn(t, key, at, c)
			}
		}
		for _, c := range wrongCells() {
			wantNoValueIn(t, key, 4, c)
			wantNoValueIn(t, key, -1, c)
		}
	}
}

// TestCellsWithOneNumberWrong has times and places of which a stream would still have an answer, too.
func TestCellsWithOneNumberWrong(t *testing.T) {
	for _, key := range rightKeys {
		for _, x := range oneFieldWrong() {
			wantNoValueIn(t, key, x.At, impl.Cell{Time: x.Time, Value: x.Value})
		}
	}
}

func TestCellsWithMoreNumbersWrong(t *testing.T) {
	for _, at := range wrongAts {
		for _, c := range wrongCells() {
			for _, key := range rightKeys {
				wantNoValueIn(t, key, at, c)
			}
			for _, key := range wrongKeys {
				wantNoValueIn(t, key, at, c)
			}
		}
	}
}

// anyNumber draws one that is right about as often as not, or just past a limit, or very great, or below 0.
func anyNumber(draw *rand.Rand, most int64) int64 {
	switch draw.Intn(8) {
	case 0:
		return most + draw.Int63n(3)
	case 1:
		return draw.Int63n(4) - 2
	case 2:
		return int64(draw.Uint64())
	case 3:
		return []int64{math.MinInt64, math.MaxInt64}[draw.Intn(2)]
	}
	return draw.Int63n(most + 1)
}

func TestCellsOfAnyNumbers(t *testing.T) {
	draw := rand.New(rand.NewSource(14))
	for range 100000 {
		key, at := anyNumber(draw, impl.MaxKey), anyNumber(draw, 23)
		time, value := anyNumber(draw, 100000), anyNumber(draw, 10006)
		cellOk := time >= 0 && time <= 100000 && value >= 0 && value <= 10006
		there := at >= 0 && at <= 23 && cellOk
		c := impl.Cell{Time: time, Value: value}
		wantCellOk(t, c, cellOk)
		if there {
			wantTripleIn(t, at, c, impl.Triple{At: at, Time: time, Value: value})
		} else {
			wantTripleIn(t, at, c, impl.Triple{})
		}
		if there && key >= 1 && key <= 1000000 {
			wantKept(t, key, at, value, bigCell(key, at, time, value))
			wantValueIn(t, key, at, c, (value+10007-bigStream(key, at, time))%10007)
		} else {
			wantNoValueIn(t, key, at, c)
		}
		if t.Failed() {
			t.FailNow()
		}
	}
}

func TestCellsKeepNothing(t *testing.T) {
	c := impl.Cell{Time: 30, Value: 600}
	for range 3 {
		wantKept(t, 9, 4, 123, c)
		wantNoValueIn(t, 0, 4, c)
		wantNoValueIn(t, 9, 24, c)
		wantNoValueIn(t, 9, 4, impl.Cell{Time: -1, Value: 600})
		wantTripleIn(t, 24, c, impl.Triple{})
		wantKept(t, 10, 4, 123, bigCell(10, 4, 30, 123))
	}
	if c != (impl.Cell{Time: 30, Value: 600}) {
		t.Fatal(c)
	}
}
