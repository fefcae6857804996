package tests

import (
	"math"
	"math/rand"
	"slices"
	"testing"

	"loop.example/g00775/impl"
)

// scan is what Scanned is called with.
type scan struct {
	plan   impl.Plan
	region int64
	trust  impl.Trust
	cell   impl.Cell
}

// scanAnswer is what Scanned answers.
type scanAnswer struct {
	trust impl.Trust
	cell  impl.Cell
	code  int64
}

// knownScans are some that nothing refuses, with their answers, as another program found them.
var knownScans = []struct {
	scan   scan
	answer scanAnswer
}{
	{
		scan{planOf(1, 1), 0, impl.Trust{Clock: 1, Written: 462325086933547975}, impl.Cell{Time: 1, Value: 9477}},
		scanAnswer{impl.Trust{Clock: 2, Epoch: 1, Written: 462307020153608944}, impl.Cell{Time: 2, Value: 933}, impl.CdPassed},
	},
	{
		scan{planOf(9, 3, 2), 1, impl.Trust{Clock: 2, Written: 1820470517149557403}, impl.Cell{Time: 1, Value: 6559}},
		scanAnswer{impl.Trust{Clock: 3, Cursor: 1, Read: 910213482016835210, Written: 1820470517149557403, NextWritten: 910220328194708234}, impl.Cell{Time: 3, Value: 9485}, impl.CdOk},
	},
	{
		scan{planOf(9, 3, 2), 1, impl.Trust{Clock: 3, Cursor: 1, Read: 910213482016835210, Written: 1820470517149557403, NextWritten: 910220328194708234}, impl.Cell{Time: 2, Value: 9548}},
		scanAnswer{impl.Trust{Clock: 4, Epoch: 1, Written: 1820462719636427908}, impl.Cell{Time: 4, Value: 2467}, impl.CdPassed},
	},
	{
		scan{planOf(1, 1), 0, impl.Trust{Clock: 1, Written: 462325086933547975}, impl.Cell{Time: 0, Value: 0}},
		scanAnswer{impl.Trust{Clock: 2, Read: 462304453910648377, Written: 462325086933547975, Failed: true}, impl.Cell{Time: 2, Value: 2926}, impl.CdCaught},
	},
	{
		scan{planOf(9, 3, 4, 2), 1, impl.Trust{Clock: 300, Epoch: 4, Cursor: 2, Read: 11, Written: 12, NextRead: 13, NextWritten: 14}, impl.Cell{Time: 200, Value: 77}},
		scanAnswer{impl.Trust{Clock: 301, Epoch: 4, Cursor: 3, Read: 910329250712873572, Written: 12, NextRead: 13, NextWritten: 910374124531203685}, impl.Cell{Time: 301, Value: 7742}, impl.CdOk},
	},
	{
		scan{planOf(77, 3, 2), 0, impl.Trust{Clock: 99999, Epoch: 999, Cursor: 2, Read: impl.MixMod - 1, Written: 2438616131570982367, NextRead: impl.MixMod - 1, NextWritten: impl.MixMod - 2}, impl.Cell{Time: 99999, Value: 123}},
		scanAnswer{impl.Trust{Clock: 100000, Epoch: 1000, Read: impl.MixMod - 1, Written: 2438619554659918878}, impl.Cell{Time: 100000, Value: 1586}, impl.CdPassed},
	},
	{
		scan{planOf(77, 3, 2), 0, impl.Trust{Clock: 99999, Epoch: 999, Cursor: 2, Read: impl.MixMod - 1, Written: 2438616131570982368, NextRead: impl.MixMod - 1, NextWritten: impl.MixMod - 2}, impl.Cell{Time: 99999, Value: 123}},
		scanAnswer{impl.Trust{Clock: 100000, Epoch: 999, Read: 2438616131570982367, Written: 2438616131570982368, Failed: true}, impl.Cell{Time: 100000, Value: 1586}, impl.CdCaught},
	},
	{
		scan{planOf(impl.MaxKey, 8, 8, 8), 2, impl.Trust{Clock: 50000, Epoch: 7, Cursor: 7, Read: impl.MixMod / 2, Written: impl.MixMod - 5, NextRead: 1, NextWritten: 2}, impl.Cell{Time: 50000, Value: 5000}},
		scanAnswer{impl.Trust{Clock: 50001, Epoch: 7, Read: 3130108288016802009, Written: impl.MixMod - 5, Failed: true}, impl.Cell{Time: 50001, Value: 6463}, impl.CdCaught},
	},
	{
		scan{planOf(500000, 1, 8, 7, 8), 3, impl.Trust{Clock: 99999, Epoch: 3, Cursor: 6, Read: impl.MixMod - 1, Written: impl.MixMod / 2, NextRead: impl.MixMod - 2, NextWritten: impl.MixMod - 1}, impl.Cell{Time: 12345, Value: 10006}},
		scanAnswer{impl.Trust{Clock: 100000, Epoch: 3, Cursor: 7, Read: 2629753958909835931, Written: impl.MixMod / 2, NextRead: impl.MixMod - 2, NextWritten: 2654412149999711746}, impl.Cell{Time: 100000, Value: 9566}, impl.CdOk},
	},
}

// midScan is one that nothing refuses, of a region that is neither the first one nor the last one, at a sector ahead of its last one.
func midScan() scan {
	return scan{planOf(9, 3, 4, 2), 1, midTrust, impl.Cell{Time: 200, Value: 77}}
}

// lastScan is one that nothing refuses, at the last sector of its region; the sums are such that the region passes.
func lastScan() scan {
	x := midScan()
	x.trust.Cursor = 3
	return x.passing()
}

// passing is the same scan with the Written that Read comes to, so that at the last sector the region passes.
func (x scan) passing() scan {
	at := together(x.plan.Counts[:x.region]) + x.trust.Cursor
	x.trust.Written = bigAdd(x.trust.Read, bigMix(x.plan.Key, []int64{2, at, x.cell.Time, x.cell.Value}))
	return x
}

func (x scan) answered() scanAnswer {
	trust, cell, code := impl.Scanned(x.plan, x.region, x.trust, x.cell)
	return scanAnswer{trust, cell, code}
}

func wantScan(t *testing.T, x scan, want scanAnswer) {
	t.Helper()
	if got := x.answered(); got != want {
		t.Errorf("Scanned of %+v is %+v, want %+v", x, got, want)
	}
}

func wantBadScan(t *testing.T, x scan) {
	t.Helper()
	wantScan(t, x, scanAnswer{code: 1})
}

// wantNotScanned asks for what is neither done nor noticed: the trust and the cell stay as they are.
func wantNotScanned(t *testing.T, x scan, code int64) {
	t.Helper()
	wantScan(t, x, scanAnswer{x.trust, x.cell, code})
}

// wantLateScan asks for what is caught at once: the trust has failed, and its Cursor and sums stay as they are.
func wantLateScan(t *testing.T, x scan) {
	t.Helper()
	failed := x.trust
	failed.Failed = true
	wantScan(t, x, scanAnswer{failed, x.cell, 4})
}

// wantScanDone asks for what the chapter tells of a scan that nothing refuses; the trust stays right, and the cell holds what it held.
func wantScanDone(t *testing.T, x scan) {
	t.Helper()
	want := x.doneByWords()
	wantScan(t, x, want)
	wantTrustOk(t, x.plan, x.region, want.trust, true)
	at := impl.FirstOf(x.plan, x.region) + x.trust.Cursor
	wantKept(t, x.plan.Key, at, impl.ValueIn(x.plan.Key, at, x.cell), want.cell)
}

// doneByWords is what the chapter tells of a scan that nothing refuses, in numbers without a limit.
func (x scan) doneByWords() scanAnswer {
	key, count := x.plan.Key, x.plan.Counts[x.region]
	at := together(x.plan.Counts[:x.region]) + x.trust.Cursor
	seen := (x.cell.Value - bigStream(key, at, x.cell.Time) + 10007) % 10007
	cell := bigCell(key, at, x.trust.Clock+1, seen)
	read := bigAdd(x.trust.Read, bigMix(key, []int64{2, at, x.cell.Time, x.cell.Value}))
	nextWritten := bigAdd(x.trust.NextWritten, bigMix(key, []int64{2, at, cell.Time, cell.Value}))
	after := impl.Trust{Clock: x.trust.Clock + 1, Epoch: x.trust.Epoch}
	switch {
	case x.trust.Cursor+1 < count:
		after.Cursor = x.trust.Cursor + 1
		after.Read, after.Written = read, x.trust.Written
		after.NextRead, after.NextWritten = x.trust.NextRead, nextWritten
		return scanAnswer{after, cell, 0}
	case read == x.trust.Written:
		after.Epoch++
		after.Read, after.Written = x.trust.NextRead, nextWritten
		return scanAnswer{after, cell, 5}
	}
	after.Read, after.Written, after.Failed = read, x.trust.Written, true
	return scanAnswer{after, cell, 4}
}

// answeredByWords is what the chapter tells of any scan of a plan that is right.
func (x scan) answeredByWords() scanAnswer {
	there := x.region >= 0 && x.region < int64(len(x.plan.Counts))
	cellRight := x.cell.Time >= 0 && x.cell.Time <= 100000 && x.cell.Value >= 0 && x.cell.Value <= 10006
	if !there || !rightByWords(x.trust, x.plan.Counts[x.region]) || !cellRight {
		return scanAnswer{code: 1}
	}
	left := scanAnswer{trust: x.trust, cell: x.cell}
	switch {
	case x.trust.Failed:
		left.code = 2
	case x.trust.Clock == 100000 || x.trust.Epoch == 1000:
		left.code = 3
	case x.cell.Time > x.trust.Clock:
		left.code, left.trust.Failed = 4, true
	default:
		return x.doneByWords()
	}
	return left
}

// walk is one region as it is kept, with all that was read and written in this epoch and for the next one.
type walk struct {
	plan          impl.Plan
	region, first int64
	trust         impl.Trust
	cells         []impl.Cell
	read          []impl.Triple
	written       []impl.Triple
	nextRead      []impl.Triple
	nextWritten   []impl.Triple
}

func newWalk(p impl.Plan, region int64) *walk {
	w := &walk{plan: p, region: region, first: together(p.Counts[:region])}
	w.trust, w.cells = impl.NewTrust(p, region)
	for i, c := range w.cells {
		w.written = append(w.written, impl.TripleIn(w.first+int64(i), c))
	}
	return w
}

// touched touches the sector of that number within the region, which nothing may refuse, and answers what was read.
func (w *walk) touched(t *testing.T, number int, value int64) int64 {
	t.Helper()
	at := w.first + int64(number)
	got := touch{w.plan, w.trust, at, w.cells[number], value}.answered()
	if got.code != impl.CdOk {
		t.Fatalf("with %+v the code of touching %d is %d", w.trust, at, got.code)
	}
	read, written := &w.read, &w.written
	if int64(number) < w.trust.Cursor {
		read, written = &w.nextRead, &w.nextWritten
	}
	*read = append(*read, impl.TripleIn(at, w.cells[number]))
	*written = append(*written, impl.TripleIn(at, got.cell))
	w.trust, w.cells[number] = got.trust, got.cell
	return got.number
}

// stepped scans the sector at the Cursor, which nothing may refuse, and answers the code.
func (w *walk) stepped(t *testing.T) int64 {
	t.Helper()
	number := w.trust.Cursor
	at := w.first + number
	got := scan{w.plan, w.region, w.trust, w.cells[number]}.answered()
	wantKept(t, w.plan.Key, at, impl.ValueIn(w.plan.Key, at, w.cells[number]), got.cell)
	w.read = append(w.read, impl.TripleIn(at, w.cells[number]))
	w.nextWritten = append(w.nextWritten, impl.TripleIn(at, got.cell))
	want := impl.Trust{Clock: w.trust.Clock + 1, Epoch: w.trust.Epoch, Cursor: number + 1}
	code := int64(impl.CdOk)
	if want.Cursor == int64(len(w.cells)) {
		want.Cursor = 0
		code = w.ended(&want)
	}
	want.Read, want.Written = bigSum(w.plan.Key, w.read), bigSum(w.plan.Key, w.written)
	want.NextRead, want.NextWritten = bigSum(w.plan.Key, w.nextRead), bigSum(w.plan.Key, w.nextWritten)
	if got.trust != want || got.code != code || got.cell.Time != want.Clock {
		t.Fatalf("the scan of %d with %+v answers %+v, want %+v and %d", at, w.trust, got, want, code)
	}
	w.trust, w.cells[number] = got.trust, got.cell
	return got.code
}

// ended is the verdict, on the sums of all that was read and all that was written.
func (w *walk) ended(want *impl.Trust) int64 {
	if bigSum(w.plan.Key, w.read) == bigSum(w.plan.Key, w.written) {
		want.Epoch++
		w.read, w.written = w.nextRead, w.nextWritten
		w.nextRead, w.nextWritten = nil, nil
		return impl.CdPassed
	}
	want.Failed = true
	w.nextRead, w.nextWritten = nil, nil
	return impl.CdCaught
}

// closed scans on to the end of the region, and answers the last code; each one ahead of it must be CdOk.
func (w *walk) closed(t *testing.T) int64 {
	t.Helper()
	for {
		cursor := w.trust.Cursor
		code := w.stepped(t)
		if last := cursor+1 == int64(len(w.cells)); last || code != impl.CdOk {
			if !last {
				t.Fatalf("the scan at the Cursor %d answers %d", cursor, code)
			}
			return code
		}
	}
}

// eachRegion calls once for each region of the known plans.
func eachRegion(key int64, call func(p impl.Plan, region int64)) {
	for _, known := range knownPlans {
		for region := range known.counts {
			call(planOf(key, known.counts...), int64(region))
		}
	}
}

func TestScansByHand(t *testing.T) {
	for _, known := range knownScans {
		wantScan(t, known.scan, known.answer)
		wantScanDone(t, known.scan)
	}
	codes := map[int64]int{}
	for _, known := range knownScans {
		codes[known.answer.code]++
	}
	if codes[impl.CdOk] == 0 || codes[impl.CdPassed] == 0 || codes[impl.CdCaught] == 0 {
		t.Fatal(codes)
	}
}

// TestARegionThatNobodyTouchesPasses is promise 9 with scans alone, more than once.
func TestARegionThatNobodyTouchesPasses(t *testing.T) {
	eachRegion(9, func(p impl.Plan, region int64) {
		w := newWalk(p, region)
		for epoch := range int64(5) {
			if code := w.closed(t); code != impl.CdPassed || w.trust.Epoch != epoch+1 {
				t.Fatalf("the region %d of %v ends the epoch %d with %d", region, p, epoch, code)
			}
			if w.trust.Clock != (epoch+2)*int64(len(w.cells)) || w.trust.Read != 0 {
				t.Fatalf("with nothing touched the trust is %+v", w.trust)
			}
		}
	})
}

// TestARegionThatNobodyChangesPasses is promise 9: whatever is touched between two scans, each code is CdOk and the last one CdPassed, and each value stays what was written last.
func TestARegionThatNobodyChangesPasses(t *testing.T) {
	draw := rand.New(rand.NewSource(20))
	eachRegion(77, func(p impl.Plan, region int64) {
		p.Key = draw.Int63n(impl.MaxKey) + 1
		w := newWalk(p, region)
		values := make([]int64, len(w.cells))
		for epoch := range int64(6) {
			for w.trust.Epoch == epoch {
				w.touchedAnyhow(t, draw, values)
				want := int64(impl.CdOk)
				if w.trust.Cursor+1 == int64(len(w.cells)) {
					want = impl.CdPassed
				}
				if code := w.stepped(t); code != want {
					t.Fatalf("the code is %d, want %d; then %+v", code, want, w.trust)
				}
			}
		}
		for number, value := range values {
			wantValueIn(t, p.Key, w.first+int64(number), w.cells[number], value)
		}
	})
}

// touchedAnyhow touches some sectors, some of them more than once, and keeps the values that were written.
func (w *walk) touchedAnyhow(t *testing.T, draw *rand.Rand, values []int64) {
	t.Helper()
	for range draw.Intn(4) {
		number, value := draw.Intn(len(w.cells)), draw.Int63n(impl.ValueMod+1)-1
		if got := w.touched(t, number, value); got != values[number] {
			t.Fatalf("%d is read where %d was written", got, values[number])
		}
		if value >= 0 {
			values[number] = value
		}
	}
}

// TestTouchesAtAheadOfAndBehindTheCursor has one touch of each sector at each Cursor, with the epoch that it comes to.
func TestTouchesAtAheadOfAndBehindTheCursor(t *testing.T) {
	for number := range 4 {
		for cursor := range int64(4) {
			w := newWalk(planOf(9, 3, 4, 2), 1)
			for w.trust.Cursor < cursor {
				w.stepped(t)
			}
			w.touched(t, number, 500)
			behind := int64(number) < cursor
			if (len(w.nextRead) == 1) != behind || (w.trust.NextRead != 0) != behind {
				t.Fatalf("the sector %d at the Cursor %d: %+v", number, cursor, w.trust)
			}
			for range 3 {
				if code := w.closed(t); code != impl.CdPassed {
					t.Fatalf("the sector %d was touched at the Cursor %d: %d", number, cursor, code)
				}
			}
			if w.trust.Epoch != 3 || w.touched(t, number, -1) != 500 {
				t.Fatal(w.trust)
			}
		}
	}
}

// TestWholePlansPass scans and touches all regions of a plan by turns.
func TestWholePlansPass(t *testing.T) {
	draw := rand.New(rand.NewSource(21))
	for _, known := range knownPlans {
		p := planOf(draw.Int63n(impl.MaxKey)+1, known.counts...)
		var walks []*walk
		var values [][]int64
		for region, count := range known.counts {
			walks = append(walks, newWalk(p, int64(region)))
			values = append(values, make([]int64, count))
		}
		for range 100 {
			i, j := draw.Intn(len(walks)), draw.Intn(len(walks))
			walks[i].touchedAnyhow(t, draw, values[i])
			if code := walks[j].stepped(t); code != impl.CdOk && code != impl.CdPassed {
				t.Fatal(code, walks[j].trust)
			}
		}
	}
}

// TestWhichSumGetsWhat puts what is read to this epoch and what is written to the next one, and nothing to the other two sums.
func TestWhichSumGetsWhat(t *testing.T) {
	x := midScan()
	got := x.answered()
	cell := impl.CellOf(9, 5, 301, impl.ValueIn(9, 5, x.cell))
	read, written := impl.TagOf(9, impl.TripleIn(5, x.cell)), impl.TagOf(9, impl.TripleIn(5, cell))
	want := impl.Trust{Clock: 301, Epoch: 4, Cursor: 3, Read: impl.AddOf(11, read), Written: 12, NextRead: 13, NextWritten: impl.AddOf(14, written)}
	if got != (scanAnswer{want, cell, impl.CdOk}) {
		t.Fatalf("%+v, want %+v, %v", got, want, cell)
	}
	x.trust, x.cell = got.trust, impl.Cell{Time: 301, Value: 10006}
	x = x.passing()
	got = x.answered()
	cell = impl.CellOf(9, 6, 302, impl.ValueIn(9, 6, x.cell))
	want = impl.Trust{Clock: 302, Epoch: 5, Read: 13, Written: impl.AddOf(want.NextWritten, impl.TagOf(9, impl.TripleIn(6, cell)))}
	if got != (scanAnswer{want, cell, impl.CdPassed}) {
		t.Fatalf("%+v, want %+v, %v", got, want, cell)
	}
}

// TestEveryCursorHasItsSector scans each sector of each region, with trusts whose sums are any.
func TestEveryCursorHasItsSector(t *testing.T) {
	draw := rand.New(rand.NewSource(22))
	eachRegion(impl.MaxKey, func(p impl.Plan, region int64) {
		for cursor := range p.Counts[region] {
			x := scan{p, region, someTrust(draw, cursor), impl.Cell{}}
			x.trust.Epoch = draw.Int63n(impl.MaxEpoch)
			for _, value := range rightValues {
				x.cell = impl.Cell{Time: draw.Int63n(x.trust.Clock + 1), Value: value}
				wantScanDone(t, x)
				wantScanDone(t, x.passing())
			}
		}
	})
}

// TestEveryValueIsScanned has every value a cell can hold, at one place and time.
func TestEveryValueIsScanned(t *testing.T) {
	for value := range int64(impl.ValueMod) {
		x := midScan()
		x.cell.Value = value
		wantScanDone(t, x)
		if t.Failed() {
			t.FailNow()
		}
	}
}

// TestTheVerdict has Read at each edge when the last tag comes to it, and Written just that, or something else.
func TestTheVerdict(t *testing.T) {
	for _, read := range rightSums {
		x := lastScan()
		x.trust.Read = read
		x = x.passing()
		wantScanDone(t, x)
		if got := x.answered(); got.code != impl.CdPassed || got.trust.Epoch != 5 || got.trust.Failed {
			t.Errorf("Read comes to what Written is: %+v", got)
		}
		right := x.trust.Written
		for _, other := range []int64{bigAdd(right, 1), bigAdd(right, impl.MixMod-1), bigAdd(right, impl.MixMod/2), x.trust.Read, 0} {
			x.trust.Written = other
			wantScanDone(t, x)
			if got := x.answered(); got.code != impl.CdCaught || got.trust.Epoch != 4 || !got.trust.Failed {
				t.Errorf("Read comes to something else than Written is: %+v", got)
			}
		}
	}
}

// TestTheVerdictAsksForThisEpochAlone has sums of the next epoch that are alike and that are not.
func TestTheVerdictAsksForThisEpochAlone(t *testing.T) {
	for _, nextRead := range rightSums {
		for _, nextWritten := range rightSums {
			x := lastScan()
			x.trust.NextRead, x.trust.NextWritten = nextRead, nextWritten
			wantScanDone(t, x)
			if got := x.answered(); got.code != impl.CdPassed || got.trust.Read != nextRead || got.trust.NextRead != 0 || got.trust.NextWritten != 0 {
				t.Errorf("%+v", got)
			}
			x.trust.Written = bigAdd(x.trust.Written, 1)
			wantScanDone(t, x)
			if got := x.answered(); got.code != impl.CdCaught || got.trust.Written != x.trust.Written || got.trust.NextRead != 0 || got.trust.NextWritten != 0 {
				t.Errorf("%+v", got)
			}
		}
	}
}

// TestNoVerdictAheadOfTheLastSector has sums that are alike too early, and ones that are not yet.
func TestNoVerdictAheadOfTheLastSector(t *testing.T) {
	for cursor := range int64(8) {
		x := scan{planOf(9, 8), 0, impl.Trust{Clock: 300, Epoch: 4, Cursor: cursor, Read: 11}, impl.Cell{Time: 200, Value: 77}}
		alike, unlike := x.passing().answered().code, x.answered().code
		if cursor < 7 && (alike != impl.CdOk || unlike != impl.CdOk) {
			t.Errorf("at the Cursor %d the codes are %d and %d", cursor, alike, unlike)
		}
		if cursor == 7 && (alike != impl.CdPassed || unlike != impl.CdCaught) {
			t.Errorf("at the last sector the codes are %d and %d", alike, unlike)
		}
	}
}

// TestARegionOfOneSector has the verdict with each scan, as its first sector is its last one.
func TestARegionOfOneSector(t *testing.T) {
	w := newWalk(planOf(9, 2, 1, 3), 1)
	for epoch := range int64(20) {
		if epoch%3 == 1 {
			w.touched(t, 0, epoch)
		}
		if code := w.stepped(t); code != impl.CdPassed || w.trust.Epoch != epoch+1 || w.trust.Cursor != 0 {
			t.Fatal(code, w.trust)
		}
	}
	w.cells[0].Value = (w.cells[0].Value + 1) % impl.ValueMod
	if code := w.stepped(t); code != impl.CdCaught || w.trust.Epoch != 20 || w.trust.Cursor != 0 {
		t.Fatal(code, w.trust)
	}
}

// changes are what anybody may do to a cell that is not late and not wrong, so that only the sums can tell.
func changes(c impl.Cell, clock int64) []impl.Cell {
	list := []impl.Cell{
		{Time: c.Time, Value: (c.Value + 1) % impl.ValueMod},
		{Time: c.Time, Value: (c.Value + impl.ValueMod - 1) % impl.ValueMod},
		{Time: c.Time - 1, Value: c.Value},
		{Time: 0, Value: 0},
		{Time: clock, Value: (c.Value + 5000) % impl.ValueMod},
	}
	if c.Time < clock {
		list = append(list, impl.Cell{Time: c.Time + 1, Value: c.Value}, impl.Cell{Time: clock, Value: c.Value})
	}
	return list
}

// TestChangedCellsAreCaught changes one cell ahead of the Cursor or at it: that ends in CdCaught at the region's end, and not earlier.
func TestChangedCellsAreCaught(t *testing.T) {
	for number := range 4 {
		for cursor := range int64(number + 1) {
			for which := range 7 {
				w := newWalk(planOf(9, 3, 4, 2), 1)
				w.touched(t, 3-number, 500)
				w.closed(t)
				for w.trust.Cursor < cursor {
					w.stepped(t)
				}
				list := changes(w.cells[number], w.trust.Clock)
				w.cells[number] = list[which%len(list)]
				wantCaughtWalk(t, w, 1)
			}
		}
	}
}

// wantCaughtWalk scans on to a region's end, at which it must fail, and tries the trust that it leaves.
func wantCaughtWalk(t *testing.T, w *walk, epoch int64) {
	t.Helper()
	if code := w.closed(t); code != impl.CdCaught {
		t.Fatalf("the code is %d; %+v", code, w.trust)
	}
	x := w.trust
	if !x.Failed || x.Epoch != epoch || x.Cursor != 0 || x.NextRead != 0 || x.NextWritten != 0 || x.Read == x.Written {
		t.Fatalf("what is caught leaves %+v", x)
	}
	wantTrustOk(t, w.plan, w.region, x, true)
	for number, c := range w.cells {
		at := w.first + int64(number)
		wantScan(t, scan{w.plan, w.region, x, c}, scanAnswer{x, c, impl.CdFailed})
		wantTouch(t, touch{w.plan, x, at, c, 5}, touchAnswer{trust: x, cell: c, code: impl.CdFailed})
	}
}

// TestCellsChangedBehindTheCursorAreCaughtALapLater changes what was gone through already: this epoch passes, and the next one does not.
func TestCellsChangedBehindTheCursorAreCaughtALapLater(t *testing.T) {
	for cursor := int64(1); cursor < 4; cursor++ {
		for number := range cursor {
			for _, touched := range []bool{false, true} {
				w := newWalk(planOf(9, 3, 4, 2), 1)
				for w.trust.Cursor < cursor {
					w.stepped(t)
				}
				w.cells[number].Value = (w.cells[number].Value + 1) % impl.ValueMod
				if touched {
					w.touched(t, int(number), -1)
				}
				if code := w.closed(t); code != impl.CdPassed {
					t.Fatal(code, w.trust)
				}
				wantCaughtWalk(t, w, 1)
			}
		}
	}
}

// TestChangedCellsThatAreTouchedAreCaught reads the changed cell by a touch, so that all scans see cells that were written right.
func TestChangedCellsThatAreTouchedAreCaught(t *testing.T) {
	for number := range 4 {
		for _, value := range []int64{-1, 0, 500} {
			w := newWalk(planOf(9, 3, 4, 2), 1)
			w.cells[number].Value = (w.cells[number].Value + 1) % impl.ValueMod
			w.touched(t, number, value)
			wantCaughtWalk(t, w, 0)
		}
	}
}

// TestCellsPutBackAreCaught has cells as they were at an earlier time of this epoch or of the one before, which were right then.
func TestCellsPutBackAreCaught(t *testing.T) {
	for number := range 4 {
		for many := 1; many <= 3; many++ {
			for _, epochs := range []int64{0, 1} {
				w := newWalk(planOf(9, 3, 4, 2), 1)
				early := w.cells[number]
				for w.trust.Epoch < epochs {
					w.closed(t)
				}
				for range many {
					w.touched(t, number, -1)
				}
				w.cells[number] = early
				wantCaughtWalk(t, w, epochs)
			}
		}
	}
}

// TestAllCellsPutBackAreCaught goes back to a time long ago with all cells at once, the last scan having passed.
func TestAllCellsPutBackAreCaught(t *testing.T) {
	w := newWalk(planOf(9, 3, 4, 2), 1)
	early := slices.Clone(w.cells)
	w.closed(t)
	w.cells = early
	wantCaughtWalk(t, w, 1)
}

// TestOldAndNewCellsByTurnsAreCaught reads an old cell once more, and then the newer one that was written in between.
func TestOldAndNewCellsByTurnsAreCaught(t *testing.T) {
	w := newWalk(planOf(9, 3, 4, 2), 1)
	old := w.cells[2]
	w.touched(t, 2, 500)
	newer := w.cells[2]
	w.cells[2] = old
	w.touched(t, 2, 600)
	w.cells[2] = newer
	if w.touched(t, 2, -1) != 500 {
		t.Fatal(w.cells)
	}
	wantCaughtWalk(t, w, 0)
}

// TestTheVerdictAsksForTheSumsAlone has two cells that have changed places: what was read is not what was written, but it comes to the same sum, and that is what the chapter asks for.
func TestTheVerdictAsksForTheSumsAlone(t *testing.T) {
	for a := range 4 {
		for b := range a {
			w := newWalk(planOf(9, 3, 4, 2), 1)
			w.cells[a], w.cells[b] = w.cells[b], w.cells[a]
			for w.trust.Cursor < 3 {
				w.stepped(t)
			}
			last := append(slices.Clone(w.read), impl.TripleIn(6, w.cells[3]))
			wantSameBag(t, last, w.written, false)
			wantSum(t, 9, last, w.trust.Written)
			if code := w.stepped(t); code != impl.CdPassed {
				t.Fatal(code, w.trust)
			}
		}
	}
}

// TestCellsPutRightAheadOfReadingPass changes a cell and puts it right again with nobody having read it.
func TestCellsPutRightAheadOfReadingPass(t *testing.T) {
	w := newWalk(planOf(9, 3, 4, 2), 1)
	w.stepped(t)
	for number := range w.cells {
		kept := w.cells[number]
		w.cells[number] = impl.Cell{Time: 1, Value: 1}
		w.touched(t, (number+1)%4, 70)
		w.cells[number] = kept
	}
	for range 2 {
		if code := w.closed(t); code != impl.CdPassed {
			t.Fatal(code, w.trust)
		}
	}
}

// TestAnyWalks touches, scans and changes as it comes: what passes is what the sums of all that was read and written tell.
func TestAnyWalks(t *testing.T) {
	draw := rand.New(rand.NewSource(23))
	ends := map[int64]int{}
	for range 2000 {
		known := knownPlans[draw.Intn(len(knownPlans))]
		w := newWalk(planOf(draw.Int63n(impl.MaxKey)+1, known.counts...), draw.Int63n(int64(len(known.counts))))
		early := slices.Clone(w.cells)
		for range 40 {
			number := draw.Intn(len(w.cells))
			switch draw.Intn(40) {
			case 0:
				list := changes(w.cells[number], w.trust.Clock)
				c := list[draw.Intn(len(list))]
				c.Time = max(c.Time, 0)
				w.cells[number] = c
			case 1:
				w.cells[number] = early[number]
			case 2, 3, 4, 5:
				early = slices.Clone(w.cells)
			case 6, 7, 8, 9, 10, 11, 12, 13:
				w.touched(t, number, draw.Int63n(impl.ValueMod+1)-1)
			default:
				ends[w.stepped(t)]++
			}
			if w.trust.Failed {
				break
			}
		}
	}
	for _, code := range []int64{impl.CdOk, impl.CdPassed, impl.CdCaught} {
		if ends[code] < 200 {
			t.Fatal(ends)
		}
	}
}

// TestWhatFailedIsNotScanned has cells that would be taken otherwise, at each Cursor.
func TestWhatFailedIsNotScanned(t *testing.T) {
	for cursor := range int64(4) {
		x := midScan()
		x.trust.Cursor = cursor
		if cursor == 0 {
			x.trust.NextRead, x.trust.NextWritten = 0, 0
		}
		x.trust.Failed = true
		for _, time := range []int64{0, 200, 300, 301, impl.MaxTime} {
			x.cell.Time = time
			wantNotScanned(t, x, impl.CdFailed)
			wantNotScanned(t, x.passing(), impl.CdFailed)
		}
	}
}

// TestScanClock has the last time that may be written at, and the one after which nothing is.
func TestScanClock(t *testing.T) {
	for _, x := range []scan{midScan(), lastScan()} {
		for _, clock := range []int64{200, 201, 50000, impl.MaxTime - 2, impl.MaxTime - 1} {
			x.trust.Clock = clock
			wantScanDone(t, x)
		}
		got := x.answered()
		if got.trust.Clock != impl.MaxTime || got.cell.Time != impl.MaxTime {
			t.Errorf("one time is left: %+v", got)
		}
		x.trust.Clock = impl.MaxTime
		for _, time := range rightTimes {
			x.cell.Time = time
			wantNotScanned(t, x, impl.CdSpent)
		}
		x.trust.Clock = impl.MaxTime + 1
		wantBadScan(t, x)
	}
}

// TestScanEpoch has the last epoch, in which nothing is scanned, and the one ahead of it.
func TestScanEpoch(t *testing.T) {
	for _, x := range []scan{midScan(), lastScan()} {
		for _, epoch := range []int64{0, 1, 500, impl.MaxEpoch - 2, impl.MaxEpoch - 1} {
			x.trust.Epoch = epoch
			wantScanDone(t, x)
		}
		x.trust.Epoch = impl.MaxEpoch
		for _, clock := range []int64{200, 300, impl.MaxTime - 1, impl.MaxTime} {
			x.trust.Clock = clock
			wantNotScanned(t, x, impl.CdSpent)
		}
		x.trust.Clock = 300
		x.trust.Epoch = impl.MaxEpoch + 1
		wantBadScan(t, x)
	}
	x := lastScan()
	x.trust.Epoch = impl.MaxEpoch - 1
	if got := x.answered(); got.code != impl.CdPassed || got.trust.Epoch != impl.MaxEpoch {
		t.Errorf("one epoch is left: %+v", got)
	}
}

// TestAllEpochsPassAndThenTheirTimeIsOver goes from the first epoch to the last one, in which a touch is taken still.
func TestAllEpochsPassAndThenTheirTimeIsOver(t *testing.T) {
	w := newWalk(planOf(9, 3, 2), 1)
	for range int64(impl.MaxEpoch) {
		w.touched(t, 1, -1)
		if code := w.closed(t); code != impl.CdPassed {
			t.Fatal(code, w.trust)
		}
	}
	if w.trust.Epoch != impl.MaxEpoch || w.trust.Clock >= impl.MaxTime {
		t.Fatal(w.trust)
	}
	wantNotScanned(t, scan{w.plan, w.region, w.trust, w.cells[0]}, impl.CdSpent)
	wantTouchDone(t, touch{w.plan, w.trust, 3, w.cells[0], 5})
}

// TestScannedCellsAreNotLaterThanTheClock has the Time of the Cell at the Clock and one more than it.
func TestScannedCellsAreNotLaterThanTheClock(t *testing.T) {
	for _, clock := range []int64{0, 1, 2, 300, 50000, impl.MaxTime - 2, impl.MaxTime - 1} {
		for cursor := int64(1); cursor < 4; cursor++ {
			x := midScan()
			x.trust.Clock, x.trust.Cursor, x.cell.Time = clock, cursor, clock
			wantScanDone(t, x)
			wantScanDone(t, x.passing())
			x.cell.Time = 0
			wantScanDone(t, x)
			for _, time := range []int64{clock + 1, impl.MaxTime} {
				x.cell.Time = time
				wantLateScan(t, x)
				wantLateScan(t, x.passing())
			}
		}
	}
}

// TestLateCellsStayCaught goes on with a trust that failed just now and keeps its Cursor, with a cell that would be taken otherwise.
func TestLateCellsStayCaught(t *testing.T) {
	x := midScan()
	x.cell.Time = 301
	got := x.answered()
	if got.code != impl.CdCaught || !got.trust.Failed || got.trust.Cursor != 2 || got.trust.NextRead != 13 || got.trust.NextWritten != 14 {
		t.Fatal(got)
	}
	x.trust, x.cell.Time = got.trust, 200
	for range 3 {
		wantNotScanned(t, x, impl.CdFailed)
		x.trust = x.answered().trust
	}
	x.trust.Failed = false
	wantScanDone(t, x)
}

// brokenScans are one scan, with one thing about it not right each.
func brokenScans(x scan) []scan {
	broken := []scan{x, x, x, x, x, x, x, x, x}
	broken[0].plan.Key = 0
	broken[1].plan.Counts = append(slices.Clone(x.plan.Counts), 9)
	broken[2].region = -1
	broken[3].region = int64(len(x.plan.Counts))
	broken[4].trust.Clock = impl.MaxTime + 1
	broken[5].trust.Epoch = impl.MaxEpoch + 1
	broken[6].trust.Cursor = x.plan.Counts[x.region]
	broken[7].cell.Value = impl.ValueMod
	broken[8].cell.Time = -1
	return broken
}

// TestTheOrderOfTheScanCodes puts together what refuses a scan in all ways there are. A cell that is late is caught in time only: where the Epoch is the last one it is CdSpent.
func TestTheOrderOfTheScanCodes(t *testing.T) {
	for _, failed := range []bool{false, true} {
		for _, clock := range []int64{300, impl.MaxTime} {
			for _, epoch := range []int64{impl.MaxEpoch - 1, impl.MaxEpoch} {
				for _, time := range []int64{200, 300, 301, impl.MaxTime, impl.MaxTime + 1} {
					for _, x := range []scan{midScan(), lastScan()} {
						x.trust.Failed, x.trust.Clock, x.trust.Epoch, x.cell.Time = failed, clock, epoch, time
						wantFirstScanCode(t, x)
					}
				}
			}
		}
	}
}

func wantFirstScanCode(t *testing.T, x scan) {
	t.Helper()
	switch {
	case x.cell.Time > impl.MaxTime:
		wantBadScan(t, x)
	case x.trust.Failed:
		wantNotScanned(t, x, impl.CdFailed)
	case x.trust.Clock == impl.MaxTime || x.trust.Epoch == impl.MaxEpoch:
		wantNotScanned(t, x, impl.CdSpent)
	case x.cell.Time > x.trust.Clock:
		wantLateScan(t, x)
	default:
		wantScanDone(t, x)
	}
	for _, broken := range brokenScans(x) {
		wantBadScan(t, broken)
	}
}

func TestScansOfNoPlan(t *testing.T) {
	for _, p := range wrongPlans() {
		for region := int64(-2); region <= impl.MaxRegions+1; region++ {
			for _, trust := range []impl.Trust{{}, {Clock: 3, Written: 5}, {Failed: true}, {Clock: impl.MaxTime}, {Epoch: impl.MaxEpoch}} {
				wantBadScan(t, scan{p, region, trust, impl.Cell{}})
				wantBadScan(t, scan{p, region, trust, impl.Cell{Time: 4, Value: 4}})
			}
		}
	}
}

func TestScansOfNoRegion(t *testing.T) {
	for _, known := range knownPlans {
		p := planOf(77, known.counts...)
		regions := int64(len(known.counts))
		for region := regions; region <= impl.MaxSectors; region++ {
			wantBadScan(t, scan{p, region, impl.Trust{}, impl.Cell{}})
		}
		for _, region := range wrongNumbers {
			wantBadScan(t, scan{p, region, impl.Trust{}, impl.Cell{}})
			wantBadScan(t, scan{p, region, impl.Trust{Failed: true}, impl.Cell{}})
		}
		wantScanDone(t, scan{p, 0, impl.Trust{}, impl.Cell{}})
		wantScanDone(t, scan{p, regions - 1, impl.Trust{}, impl.Cell{}})
	}
}

func TestScansOfAWrongTrust(t *testing.T) {
	for _, field := range trustFields() {
		for _, failed := range []bool{false, true} {
			for _, wrong := range field.wrong {
				x := midScan()
				x.trust.Failed = failed
				*field.of(&x.trust) = wrong
				wantBadScan(t, x)
			}
		}
	}
	for _, cursor := range []int64{math.MinInt64, -1, 4, 5, 8, math.MaxInt64} {
		x := midScan()
		x.trust.Cursor = cursor
		wantBadScan(t, x)
	}
	for _, trust := range []impl.Trust{{NextRead: 1}, {NextWritten: 1}, {NextRead: 13, NextWritten: 14, Failed: true}} {
		x := midScan()
		x.trust, x.cell.Time = trust, 0
		wantBadScan(t, x)
	}
}

// TestScansAskForTheRegionItself has trusts that are right for another region alone.
func TestScansAskForTheRegionItself(t *testing.T) {
	p := planOf(9, 3, 1, 2)
	for cursor, right := range [][]bool{{true, true, true}, {true, false, true}, {true, false, false}, {false, false, false}} {
		for region := range right {
			x := scan{p, int64(region), impl.Trust{Cursor: int64(cursor)}, impl.Cell{}}
			if right[region] {
				wantScanDone(t, x)
			} else {
				wantBadScan(t, x)
			}
		}
	}
}

func TestScansOfAWrongCell(t *testing.T) {
	for _, c := range wrongCells() {
		for _, x := range []scan{midScan(), lastScan()} {
			x.cell = c
			wantBadScan(t, x)
			x.trust.Failed = true
			wantBadScan(t, x)
			x.trust.Failed, x.trust.Clock = false, impl.MaxTime
			wantBadScan(t, x)
			x.trust.Clock, x.trust.Epoch = 300, impl.MaxEpoch
			wantBadScan(t, x)
		}
	}
}

// TestScansOfAnyNumbers holds Scanned against the chapter's words, of numbers at and past all limits.
func TestScansOfAnyNumbers(t *testing.T) {
	draw := rand.New(rand.NewSource(24))
	counts := map[int64]int{}
	for range 100000 {
		x := anyScan(draw)
		want := x.answeredByWords()
		counts[want.code]++
		wantScan(t, x, want)
		if t.Failed() {
			t.FailNow()
		}
	}
	for code := range int64(6) {
		if counts[code] < 1000 {
			t.Fatal(counts)
		}
	}
}

// anyScan draws one of a plan that is right; all else about it is right or not, and each limit is met often.
func anyScan(draw *rand.Rand) scan {
	known := knownPlans[draw.Intn(len(knownPlans))]
	region := draw.Intn(len(known.counts))
	x := scan{
		plan:   planOf(draw.Int63n(impl.MaxKey)+1, known.counts...),
		region: int64(region),
		trust:  anyTrust(draw, known.counts[region]),
		cell:   impl.Cell{Time: draw.Int63n(impl.MaxTime + 1), Value: draw.Int63n(impl.ValueMod)},
	}
	if x.trust.Cursor == 0 && draw.Intn(4) != 0 {
		x.trust.NextRead, x.trust.NextWritten = 0, 0
	}
	if draw.Intn(4) != 0 {
		x.trust.Failed = false
	}
	switch draw.Intn(16) {
	case 0:
		x.trust.Clock = impl.MaxTime - draw.Int63n(2)
	case 1:
		x.trust.Epoch = impl.MaxEpoch - draw.Int63n(2)
	}
	if draw.Intn(2) == 0 {
		x.cell.Time = min(max(x.trust.Clock+draw.Int63n(3)-1, 0), impl.MaxTime)
	}
	if draw.Intn(2) == 0 && rightByWords(x.trust, known.counts[region]) {
		x = x.passing()
	}
	switch draw.Intn(12) {
	case 0:
		x.region = anyNumber(draw, int64(len(known.counts))-1)
	case 1:
		x.cell.Time = anyNumber(draw, impl.MaxTime)
	case 2:
		x.cell.Value = anyNumber(draw, impl.ValueMod-1)
	}
	return x
}

// TestScansLeaveTheirPlan gives Counts with spare room behind them.
func TestScansLeaveTheirPlan(t *testing.T) {
	for _, counts := range [][]int64{{3, 4, 2, 5, 8, 8}, {8, 8, 8, 1, 9, 7}, {0, 9, -1, 4, 4, 4}} {
		for many := range len(counts) + 1 {
			given := slices.Clone(counts)
			for _, x := range []scan{midScan(), lastScan()} {
				x.plan = impl.Plan{Key: 9, Counts: given[:many]}
				for x.region = int64(-1); x.region <= impl.MaxRegions; x.region++ {
					x.answered()
				}
			}
			if !slices.Equal(given, counts) {
				t.Fatalf("%v became %v", counts, given)
			}
		}
	}
}

// TestScansKeepNothing scans as before after others that were refused or failed, each for a reason of its own.
func TestScansKeepNothing(t *testing.T) {
	x, last := midScan(), lastScan()
	want, wantLast := x.doneByWords(), last.doneByWords()
	failed, spent, old, late, wrong := x, x, x, x, last
	failed.trust.Failed = true
	spent.trust.Clock = impl.MaxTime
	old.trust.Epoch = impl.MaxEpoch
	late.cell.Time = 301
	wrong.cell.Value++
	for range 3 {
		wantScan(t, x, want)
		wantScan(t, last, wantLast)
		wantNotScanned(t, failed, impl.CdFailed)
		wantNotScanned(t, spent, impl.CdSpent)
		wantNotScanned(t, old, impl.CdSpent)
		wantLateScan(t, late)
		wantScanDone(t, wrong)
		for _, broken := range brokenScans(x) {
			wantBadScan(t, broken)
		}
	}
	if wantLast.code != impl.CdPassed || wrong.answered().code != impl.CdCaught || x.trust != midTrust {
		t.Fatal(x, wantLast, wrong)
	}
}
