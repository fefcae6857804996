package tests

import (
	"math"
	"math/rand"
	"slices"
	"testing"

	"loop.example/g00775/impl"
)

// knownTrusts are a plan and a region each, with the Written of a new trust and its cells' values as they are hidden, as another program found them.
var knownTrusts = []struct {
	key     int64
	counts  []int64
	region  int64
	written int64
	hidden  []int64
}{
	{1, []int64{1}, 0, 462325086933547975, []int64{9477}},
	{9, []int64{3, 2}, 0, 2730409935155612340, []int64{1981, 4970, 7959}},
	{9, []int64{3, 2}, 1, 1820470517149557403, []int64{6559, 9548}},
	{77, []int64{3, 2}, 0, 2619687288724411508, []int64{8314, 1296, 4285}},
	{77, []int64{3, 2}, 1, 209412420140377185, []int64{2885, 5874}},
	{impl.MaxKey, []int64{8, 8, 8}, 2, 1868895407840360251, []int64{3824, 6813, 9802, 2784, 5773, 8762, 1744, 4733}},
	{2, []int64{8}, 0, 4147351801305507783, []int64{8540, 1522, 4511, 7500, 482, 3471, 6460, 9449}},
	{500000, []int64{1, 8, 7, 8}, 3, 2562687530590213680, []int64{9320, 2302, 5291, 8280, 1262, 4251, 7240, 222}},
	{impl.MaxKey, []int64{1, 1, 1, 1}, 3, 809460335400525142, []int64{4000}},
	{809, []int64{2, 1}, 0, 3755013438119937647, []int64{1463, 4452}},
}

var (
	rightSums   = []int64{0, 1, 5, 2147483648, impl.MixMod / 2, impl.MixMod - 2, impl.MixMod - 1}
	wrongSums   = []int64{math.MinInt64, -impl.MixMod, -2, -1, impl.MixMod, impl.MixMod + 1, math.MaxInt64 - 1, math.MaxInt64}
	rightEpochs = []int64{0, 1, 500, 999, 1000}
	wrongEpochs = []int64{math.MinInt64, -1000, -2, -1, 1001, 1002, 100000, 4294967296, math.MaxInt64}
)

// midTrust is a right trust of any region with 3 sectors or more, with no two numbers alike.
var midTrust = impl.Trust{Clock: 300, Epoch: 4, Cursor: 2, Read: 11, Written: 12, NextRead: 13, NextWritten: 14}

// trustField names one number of a trust, with those that it may be and those that it may not be, whatever the others are.
type trustField struct {
	name  string
	of    func(t *impl.Trust) *int64
	right []int64
	wrong []int64
}

// trustFields are all numbers but the Cursor, whose limit is the region's.
func trustFields() []trustField {
	return []trustField{
		{"Clock", func(t *impl.Trust) *int64 { return &t.Clock }, rightTimes, wrongTimes},
		{"Epoch", func(t *impl.Trust) *int64 { return &t.Epoch }, rightEpochs, wrongEpochs},
		{"Read", func(t *impl.Trust) *int64 { return &t.Read }, rightSums, wrongSums},
		{"Written", func(t *impl.Trust) *int64 { return &t.Written }, rightSums, wrongSums},
		{"NextRead", func(t *impl.Trust) *int64 { return &t.NextRead }, rightSums, wrongSums},
		{"NextWritten", func(t *impl.Trust) *int64 { return &t.NextWritten }, rightSums, wrongSums},
	}
}

// wrongPlans are those without a key, and those with wrong Counts, many of which begin as a right plan does.
func wrongPlans() []impl.Plan {
	list := []impl.Plan{{}, planOf(0, 3, 2), planOf(-1, 3, 2), planOf(impl.MaxKey+1, 3, 2), planOf(math.MaxInt64, 8)}
	for _, counts := range wrongCounts {
		list = append(list, planOf(9, counts...))
	}
	return append(list, planOf(9, 3, 2, 0), planOf(9, 3, 2, 9), planOf(9, 3, 2, 1, 1, 1))
}

func wantTrustOk(t *testing.T, p impl.Plan, region int64, x impl.Trust, want bool) {
	t.Helper()
	if got := impl.TrustOk(p, region, x); got != want {
		t.Errorf("TrustOk(%v, %d, %+v) = %t, want %t", p, region, x, got, want)
	}
}

func wantBehind(t *testing.T, p impl.Plan, x impl.Trust, at int64, want bool) {
	t.Helper()
	if got := impl.Behind(p, x, at); got != want {
		t.Errorf("Behind(%v, %+v, %d) = %t, want %t", p, x, at, got, want)
	}
}

func wantNewTrust(t *testing.T, p impl.Plan, region int64, want impl.Trust, cells []impl.Cell) {
	t.Helper()
	got, gotCells := impl.NewTrust(p, region)
	if got != want || !slices.Equal(gotCells, cells) {
		t.Errorf("NewTrust(%v, %d) = %+v, %v, want %+v, %v", p, region, got, gotCells, want, cells)
	}
}

// wantNoTrust asks for a region that is not there: no trust is right for it, not even the zero one.
func wantNoTrust(t *testing.T, p impl.Plan, region int64) {
	t.Helper()
	wantNewTrust(t, p, region, impl.Trust{}, nil)
	wantTrustOk(t, p, region, impl.Trust{}, false)
	wantTrustOk(t, p, region, impl.Trust{Clock: 3, Written: 5}, false)
	wantTrustOk(t, p, region, impl.Trust{Failed: true}, false)
}

// wantNothingBehind asks about a sector that is not there.
func wantNothingBehind(t *testing.T, p impl.Plan, at int64) {
	t.Helper()
	for _, cursor := range []int64{0, 1, 2, 8, 100, math.MaxInt64, -1, math.MinInt64} {
		wantBehind(t, p, impl.Trust{Cursor: cursor}, at, false)
	}
}

// wantNewAndRight is promise 7 of one region, with the chapter's words put together from the layers below alone.
func wantNewAndRight(t *testing.T, p impl.Plan, region int64, first, count int64) {
	t.Helper()
	x, cells := impl.NewTrust(p, region)
	wantTrustOk(t, p, region, x, true)
	if int64(len(cells)) != count {
		t.Fatalf("NewTrust(%v, %d) has the cells %v", p, region, cells)
	}
	var triples []impl.Triple
	for i, c := range cells {
		at, time := first+int64(i), int64(i)+1
		if c != impl.CellOf(p.Key, at, time, 0) || c.Time != time {
			t.Errorf("the cell %d of NewTrust(%v, %d) is %v", i, p, region, c)
		}
		wantCellOk(t, c, true)
		wantValueIn(t, p.Key, at, c, 0)
		wantBehind(t, p, x, at, false)
		triples = append(triples, impl.TripleIn(at, c))
	}
	if want := (impl.Trust{Clock: count, Written: impl.SumOf(p.Key, triples)}); x != want {
		t.Errorf("NewTrust(%v, %d) = %+v, want %+v", p, region, x, want)
	}
	if x.Written != bigSum(p.Key, triples) {
		t.Errorf("NewTrust(%v, %d) has Written %d, want %d", p, region, x.Written, bigSum(p.Key, triples))
	}
}

func TestTrustConstants(t *testing.T) {
	if impl.MaxEpoch != 1000 {
		t.Fatal(impl.MaxEpoch)
	}
}

func TestNewTrustsByHand(t *testing.T) {
	for _, known := range knownTrusts {
		p := planOf(known.key, known.counts...)
		var cells []impl.Cell
		for i, hidden := range known.hidden {
			cells = append(cells, impl.Cell{Time: int64(i) + 1, Value: hidden})
		}
		x := impl.Trust{Clock: int64(len(cells)), Written: known.written}
		wantNewTrust(t, p, known.region, x, cells)
		wantTrustOk(t, p, known.region, x, true)
	}
}

// TestANewTrustIsRight is promise 7, of each region of the plans whose regions and sectors are written out.
func TestANewTrustIsRight(t *testing.T) {
	for _, known := range knownPlans {
		for _, key := range rightKeys {
			p := planOf(key, known.counts...)
			for region, first := range known.firsts {
				wantNewAndRight(t, p, int64(region), first, known.counts[region])
			}
		}
	}
}

// TestEveryNewTrustIsRight is promise 7, of each region of all plans there are.
func TestEveryNewTrustIsRight(t *testing.T) {
	draw := rand.New(rand.NewSource(15))
	for many := 1; many <= impl.MaxRegions; many++ {
		eachCounts(many, 1, 8, func(counts []int64) {
			if together(counts) > impl.MaxSectors {
				return
			}
			p := planOf(draw.Int63n(impl.MaxKey)+1, counts...)
			for region, count := range counts {
				wantNewAndRight(t, p, int64(region), together(counts[:region]), count)
			}
			wantNoTrust(t, p, int64(many))
		})
	}
}

func TestANewTrustKnowsItsCellsAlone(t *testing.T) {
	p := planOf(9, 3, 3)
	first, firstCells := impl.NewTrust(p, 0)
	second, secondCells := impl.NewTrust(p, 1)
	if first.Written == second.Written || slices.Equal(firstCells, secondCells) {
		t.Errorf("two regions have the sums %d and %d, and the cells %v and %v", first.Written, second.Written, firstCells, secondCells)
	}
	other, _ := impl.NewTrust(planOf(10, 3, 3), 0)
	if other.Written == first.Written {
		t.Error("two keys have one sum")
	}
	for i := range firstCells {
		changed := slices.Clone(firstCells)
		changed[i].Value = (changed[i].Value + 1) % impl.ValueMod
		var triples []impl.Triple
		for at, c := range changed {
			triples = append(triples, impl.TripleIn(int64(at), c))
		}
		if impl.SumOf(9, triples) == first.Written {
			t.Errorf("with the cell %d changed the sum is the same", i)
		}
	}
}

func TestTrustOkNumbers(t *testing.T) {
	p := planOf(9, 4, 8, 3)
	for region := range int64(3) {
		wantTrustOk(t, p, region, midTrust, true)
		for _, field := range trustFields() {
			for _, failed := range []bool{false, true} {
				x := midTrust
				x.Failed = failed
				for _, right := range field.right {
					*field.of(&x) = right
					wantTrustOk(t, p, region, x, true)
				}
				for _, wrong := range field.wrong {
					*field.of(&x) = wrong
					wantTrustOk(t, p, region, x, false)
				}
				if t.Failed() {
					t.Fatal(field.name)
				}
			}
		}
	}
}

// TestTrustOkSetsEachNumberItsOwnLimit has numbers that one limit takes and another one refuses.
func TestTrustOkSetsEachNumberItsOwnLimit(t *testing.T) {
	p := planOf(9, 8)
	wantTrustOk(t, p, 0, impl.Trust{Clock: impl.MaxTime, Epoch: impl.MaxEpoch, Cursor: 7, Read: impl.MixMod - 1, Written: impl.MixMod - 1, NextRead: impl.MixMod - 1, NextWritten: impl.MixMod - 1, Failed: true}, true)
	wantTrustOk(t, p, 0, impl.Trust{Clock: impl.MaxEpoch + 1}, true)
	wantTrustOk(t, p, 0, impl.Trust{Epoch: impl.MaxEpoch + 1}, false)
	wantTrustOk(t, p, 0, impl.Trust{Epoch: 8}, true)
	wantTrustOk(t, p, 0, impl.Trust{Cursor: 8}, false)
	wantTrustOk(t, p, 0, impl.Trust{Read: impl.MaxTime + 1, Written: impl.MaxTime + 1}, true)
	wantTrustOk(t, p, 0, impl.Trust{Clock: impl.MaxTime + 1}, false)
}

func TestTrustOkCursor(t *testing.T) {
	for _, known := range knownPlans {
		p := planOf(77, known.counts...)
		for region, count := range known.counts {
			for cursor := int64(-3); cursor <= 26; cursor++ {
				wantTrustOk(t, p, int64(region), impl.Trust{Cursor: cursor}, cursor >= 0 && cursor < count)
				wantTrustOk(t, p, int64(region), impl.Trust{Cursor: cursor, NextRead: 5, NextWritten: 6}, cursor > 0 && cursor < count)
			}
			for _, cursor := range []int64{math.MinInt64, math.MinInt64 + 1, -4294967295, 4294967296, math.MaxInt64} {
				wantTrustOk(t, p, int64(region), impl.Trust{Cursor: cursor}, false)
			}
		}
	}
}

// TestTrustOkAtTheCursor0 has next sums without a sector that was gone through; the sums of this epoch may be any.
func TestTrustOkAtTheCursor0(t *testing.T) {
	p := planOf(9, 3, 2)
	for region := range int64(2) {
		for _, read := range rightSums {
			for _, written := range rightSums {
				wantTrustOk(t, p, region, impl.Trust{Read: read, Written: written}, true)
				none := read == 0 && written == 0
				for _, failed := range []bool{false, true} {
					wantTrustOk(t, p, region, impl.Trust{NextRead: read, NextWritten: written, Failed: failed}, none)
					wantTrustOk(t, p, region, impl.Trust{Cursor: 1, NextRead: read, NextWritten: written, Failed: failed}, true)
				}
			}
		}
		for _, wrong := range wrongSums {
			wantTrustOk(t, p, region, impl.Trust{NextRead: wrong}, false)
			wantTrustOk(t, p, region, impl.Trust{NextWritten: wrong}, false)
			wantTrustOk(t, p, region, impl.Trust{NextRead: wrong, NextWritten: -wrong}, false)
		}
	}
}

// TestTrustOkOfTheZeroTrust needs a region all the same.
func TestTrustOkOfTheZeroTrust(t *testing.T) {
	for _, known := range knownPlans {
		for region := range known.counts {
			wantTrustOk(t, planOf(9, known.counts...), int64(region), impl.Trust{}, true)
			wantTrustOk(t, planOf(9, known.counts...), int64(region), impl.Trust{Failed: true}, true)
		}
	}
}

func TestTrustOkAsksTheRegionItself(t *testing.T) {
	p := planOf(9, 3, 1, 2)
	for region, want := range []bool{true, false, false} {
		wantTrustOk(t, p, int64(region), impl.Trust{Cursor: 2}, want)
	}
	for region, want := range []bool{true, false, true} {
		wantTrustOk(t, p, int64(region), impl.Trust{Cursor: 1}, want)
	}
}

func TestTrustsOfNoRegion(t *testing.T) {
	for _, known := range knownPlans {
		p := planOf(77, known.counts...)
		for region := int64(len(known.counts)); region <= impl.MaxSectors+1; region++ {
			wantNoTrust(t, p, region)
		}
		for _, region := range wrongNumbers {
			wantNoTrust(t, p, region)
		}
	}
}

func TestTrustsOfNoPlan(t *testing.T) {
	for _, p := range wrongPlans() {
		for number := int64(-2); number <= impl.MaxSectors+1; number++ {
			wantNoTrust(t, p, number)
			wantNothingBehind(t, p, number)
		}
		for _, number := range wrongNumbers {
			wantNoTrust(t, p, number)
			wantNothingBehind(t, p, number)
		}
	}
}

// TestBehindByHand has the sector just ahead of the Cursor and the one at it, in the first region and in later ones.
func TestBehindByHand(t *testing.T) {
	p := planOf(9, 3, 1, 2)
	for cursor, want := range [][]bool{
		{false, false, false, false, false, false},
		{true, false, false, true, true, false},
		{true, true, false, true, true, true},
		{true, true, true, true, true, true},
	} {
		for at := range want {
			wantBehind(t, p, impl.Trust{Cursor: int64(cursor)}, int64(at), want[at])
		}
	}
}

func TestBehindOfEachSector(t *testing.T) {
	for _, known := range knownPlans {
		p := planOf(77, known.counts...)
		for at, region := range known.regions {
			number := int64(at) - known.firsts[region]
			for cursor := int64(-2); cursor <= 26; cursor++ {
				wantBehind(t, p, impl.Trust{Cursor: cursor}, int64(at), number < cursor)
			}
		}
	}
}

func TestBehindOfNoSector(t *testing.T) {
	for _, known := range knownPlans {
		p := planOf(77, known.counts...)
		for at := int64(len(known.regions)); at <= 2*impl.MaxSectors; at++ {
			wantNothingBehind(t, p, at)
		}
		for _, at := range wrongNumbers {
			wantNothingBehind(t, p, at)
		}
	}
}

// TestBehindAsksForTheCursorAlone has trusts that are right for no region: the chapter asks of the plan, the sector and the Cursor only.
func TestBehindAsksForTheCursorAlone(t *testing.T) {
	p := planOf(9, 3, 2)
	for _, x := range []impl.Trust{
		{}, midTrust, {Failed: true}, {NextRead: 1, NextWritten: -1}, {Read: impl.MixMod, Written: -1},
		{Clock: -1, Epoch: -1}, {Clock: impl.MaxTime + 1, Epoch: impl.MaxEpoch + 1}, {Clock: math.MaxInt64, Epoch: math.MinInt64},
	} {
		for _, cursor := range []int64{math.MinInt64, math.MinInt64 + 1, -8, -1, 0} {
			x.Cursor = cursor
			for at := range int64(5) {
				wantBehind(t, p, x, at, false)
			}
		}
		for _, cursor := range []int64{3, 8, 9, 24, 4294967296, math.MaxInt64 - 1, math.MaxInt64} {
			x.Cursor = cursor
			for at := range int64(5) {
				wantBehind(t, p, x, at, true)
			}
		}
		x.Cursor = 1
		for at, want := range []bool{true, false, false, true, false} {
			wantBehind(t, p, x, int64(at), want)
		}
	}
}

// TestTrustsOfAnyNumbers holds TrustOk and Behind against the chapter's words, of numbers at and past all limits.
func TestTrustsOfAnyNumbers(t *testing.T) {
	draw := rand.New(rand.NewSource(16))
	counts := map[bool]int{}
	for range 100000 {
		known := knownPlans[draw.Intn(len(knownPlans))]
		p := planOf(9, known.counts...)
		region := draw.Intn(len(known.counts))
		x := anyTrust(draw, known.counts[region])
		want := rightByWords(x, known.counts[region])
		counts[want]++
		wantTrustOk(t, p, int64(region), x, want)
		at := draw.Intn(len(known.regions))
		wantBehind(t, p, x, int64(at), int64(at)-known.firsts[known.regions[at]] < x.Cursor)
		if t.Failed() {
			t.FailNow()
		}
	}
	if counts[true] < 10000 || counts[false] < 10000 {
		t.Fatal(counts)
	}
}

// anyTrust draws a right one, often with no next sums, and then perhaps puts any number into one of its fields.
func anyTrust(draw *rand.Rand, count int64) impl.Trust {
	x := impl.Trust{
		Clock:   draw.Int63n(impl.MaxTime + 1),
		Epoch:   draw.Int63n(impl.MaxEpoch + 1),
		Cursor:  draw.Int63n(count),
		Read:    draw.Int63n(impl.MixMod),
		Written: draw.Int63n(impl.MixMod),
		Failed:  draw.Intn(2) == 0,
	}
	if draw.Intn(2) == 0 {
		x.NextRead, x.NextWritten = draw.Int63n(impl.MixMod), draw.Int63n(impl.MixMod)
	}
	if draw.Intn(2) == 0 {
		return x
	}
	switch which := draw.Intn(7); which {
	case 0:
		x.Clock = anyNumber(draw, impl.MaxTime)
	case 1:
		x.Epoch = anyNumber(draw, impl.MaxEpoch)
	case 2:
		x.Cursor = anyNumber(draw, count-1)
	default:
		*trustFields()[which-1].of(&x) = anyNumber(draw, impl.MixMod-1)
	}
	return x
}

func rightByWords(x impl.Trust, count int64) bool {
	for _, sum := range []int64{x.Read, x.Written, x.NextRead, x.NextWritten} {
		if sum < 0 || sum > 4611686018427387903 {
			return false
		}
	}
	if x.Clock < 0 || x.Clock > 100000 || x.Epoch < 0 || x.Epoch > 1000 {
		return false
	}
	if x.Cursor == 0 {
		return x.NextRead == 0 && x.NextWritten == 0
	}
	return x.Cursor > 0 && x.Cursor <= count-1
}

// TestTrustsLeaveTheirPlan gives Counts with spare room behind them.
func TestTrustsLeaveTheirPlan(t *testing.T) {
	for _, counts := range [][]int64{{3, 1, 2, 5, 8, 8}, {8, 8, 8, 1, 9, 7}, {0, 9, -1, 4, 4, 4}} {
		for many := range len(counts) + 1 {
			given := slices.Clone(counts)
			p := impl.Plan{Key: 9, Counts: given[:many]}
			for number := int64(-1); number <= impl.MaxSectors; number++ {
				impl.NewTrust(p, number)
				impl.TrustOk(p, number, midTrust)
				impl.Behind(p, midTrust, number)
			}
			if !slices.Equal(given, counts) || len(p.Counts) != many || p.Key != 9 {
				t.Fatalf("%v became %v", counts[:many], given)
			}
		}
	}
}

// TestNewTrustAnswersNewMemory writes into one answer, and into the spare room behind it, and asks again.
func TestNewTrustAnswersNewMemory(t *testing.T) {
	p := planOf(9, 3, 2)
	for region := range int64(2) {
		x, cells := impl.NewTrust(p, region)
		kept := slices.Clone(cells)
		_, others := impl.NewTrust(p, region)
		spoilt := cells[:cap(cells)]
		for i := range spoilt {
			spoilt[i] = impl.Cell{Time: -5, Value: -6}
		}
		if !slices.Equal(others, kept) {
			t.Errorf("the cells %v became %v", kept, others)
		}
		wantNewTrust(t, p, region, x, kept)
	}
}

// TestTrustsKeepNothing changes the Counts of a plan that was asked about already.
func TestTrustsKeepNothing(t *testing.T) {
	p := planOf(9, 3, 2)
	x, cells := impl.NewTrust(p, 1)
	for range 3 {
		p.Counts[0] = 3
		wantNewTrust(t, p, 1, x, cells)
		wantTrustOk(t, p, 0, midTrust, true)
		wantBehind(t, p, impl.Trust{Cursor: 1}, 3, true)
		p.Counts[0] = 0
		wantNoTrust(t, p, 1)
		wantNothingBehind(t, p, 3)
		p.Counts[0] = 2
		wantNewAndRight(t, p, 1, 2, 2)
		wantTrustOk(t, p, 0, midTrust, false)
		wantBehind(t, p, impl.Trust{Cursor: 1}, 3, false)
	}
	if x.Clock != 2 || len(cells) != 2 {
		t.Fatal(x, cells)
	}
}
