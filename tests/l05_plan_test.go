package tests

import (
	"math"
	"math/rand"
	"slices"
	"testing"

	"loop.example/g00775/impl"
)

// knownPlans are the Counts of right plans, with the region of each sector and the first sector of each region, written out.
var knownPlans = []struct {
	counts  []int64
	regions []int64
	firsts  []int64
}{
	{[]int64{1}, []int64{0}, []int64{0}},
	{[]int64{8}, []int64{0, 0, 0, 0, 0, 0, 0, 0}, []int64{0}},
	{[]int64{3, 2}, []int64{0, 0, 0, 1, 1}, []int64{0, 3}},
	{[]int64{1, 8}, []int64{0, 1, 1, 1, 1, 1, 1, 1, 1}, []int64{0, 1}},
	{[]int64{8, 1}, []int64{0, 0, 0, 0, 0, 0, 0, 0, 1}, []int64{0, 8}},
	{[]int64{2, 1, 3}, []int64{0, 0, 1, 2, 2, 2}, []int64{0, 2, 3}},
	{[]int64{1, 1, 1, 1}, []int64{0, 1, 2, 3}, []int64{0, 1, 2, 3}},
	{[]int64{4, 1, 2, 3}, []int64{0, 0, 0, 0, 1, 2, 2, 3, 3, 3}, []int64{0, 4, 5, 7}},
	{[]int64{8, 8, 8}, []int64{0, 0, 0, 0, 0, 0, 0, 0, 1, 1, 1, 1, 1, 1, 1, 1, 2, 2, 2, 2, 2, 2, 2, 2}, []int64{0, 8, 16}},
	{[]int64{8, 7, 1, 8}, []int64{0, 0, 0, 0, 0, 0, 0, 0, 1, 1, 1, 1, 1, 1, 1, 2, 3, 3, 3, 3, 3, 3, 3, 3}, []int64{0, 8, 15, 16}},
	{[]int64{6, 6, 6, 6}, []int64{0, 0, 0, 0, 0, 0, 1, 1, 1, 1, 1, 1, 2, 2, 2, 2, 2, 2, 3, 3, 3, 3, 3, 3}, []int64{0, 6, 12, 18}},
}

// wrongCounts are those of no right plan. In some of them a count is wrong, but all together, or what an int64 keeps of that, would do.
var wrongCounts = [][]int64{
	nil,
	{},
	{0},
	{9},
	{-1},
	{24},
	{0, 8},
	{8, 0},
	{3, 0, 2},
	{0, 0, 0, 0},
	{9, 1},
	{1, 9, 1},
	{1, 1, 9},
	{-1, 9},
	{3, -1},
	{-3, 5, 2},
	{8, 8, 8, -1},
	{8, 8, 8, 1},
	{1, 8, 8, 8},
	{6, 6, 6, 7},
	{8, 8, 8, 8},
	{1, 1, 1, 1, 1},
	{1, 1, 1, 1, 0},
	{8, 8, 8, 0, 0},
	{8, 8, 8, 8, 8, 8},
	{math.MaxInt64},
	{math.MinInt64},
	{math.MaxInt64, 1},
	{math.MaxInt64, math.MaxInt64, 5},
	{5, math.MaxInt64, math.MaxInt64},
	{math.MaxInt64, math.MaxInt64, 1, 1},
	{math.MaxInt64, math.MinInt64, 4},
	{math.MinInt64, math.MinInt64, 5},
	{1 << 62, 1 << 62, 1 << 62, 1 << 62},
	{-1 << 62, -1 << 62, -1 << 62, -1<<62 + 5},
	{4294967297},
	{4294967296 + 8, 3},
}

// wrongNumbers are ats and regions that no plan has.
var wrongNumbers = []int64{math.MinInt64, math.MinInt64 + 1, -4294967296, -25, -24, -4, -2, -1, 24, 25, 48, 4294967296, 4294967297, math.MaxInt64 - 1, math.MaxInt64}

func planOf(key int64, counts ...int64) impl.Plan {
	return impl.Plan{Key: key, Counts: counts}
}

// eachCounts calls once for all lists of that many counts from least to most.
func eachCounts(many int, least, most int64, call func(counts []int64)) {
	if many == 0 {
		call(nil)
		return
	}
	eachCounts(many-1, least, most, func(counts []int64) {
		for count := least; count <= most; count++ {
			call(append(slices.Clone(counts), count))
		}
	})
}

func together(counts []int64) int64 {
	sum := int64(0)
	for _, count := range counts {
		sum += count
	}
	return sum
}

func wantPlanOk(t *testing.T, p impl.Plan, want bool) {
	t.Helper()
	if got := impl.PlanOk(p); got != want {
		t.Errorf("PlanOk(%v) = %t, want %t", p, got, want)
	}
}

func wantSectors(t *testing.T, p impl.Plan, want int64) {
	t.Helper()
	if got := impl.SectorsOf(p); got != want {
		t.Errorf("SectorsOf(%v) = %d, want %d", p, got, want)
	}
}

func wantRegion(t *testing.T, p impl.Plan, at, want int64) {
	t.Helper()
	if got := impl.RegionOf(p, at); got != want {
		t.Errorf("RegionOf(%v, %d) = %d, want %d", p, at, got, want)
	}
}

func wantFirst(t *testing.T, p impl.Plan, region, want int64) {
	t.Helper()
	if got := impl.FirstOf(p, region); got != want {
		t.Errorf("FirstOf(%v, %d) = %d, want %d", p, region, got, want)
	}
}

// wantNoPlan asks all calls about a plan that is not right, at numbers that a right one may have, too.
func wantNoPlan(t *testing.T, p impl.Plan) {
	t.Helper()
	wantPlanOk(t, p, false)
	wantSectors(t, p, -1)
	for number := int64(-2); number <= impl.MaxSectors+1; number++ {
		wantRegion(t, p, number, -1)
		wantFirst(t, p, number, -1)
	}
	for _, number := range wrongNumbers {
		wantRegion(t, p, number, -1)
		wantFirst(t, p, number, -1)
	}
}

func TestPlanConstants(t *testing.T) {
	if impl.MaxRegions != 4 || impl.MaxSectors != 24 {
		t.Fatal(impl.MaxRegions, impl.MaxSectors)
	}
}

func TestPlansByHand(t *testing.T) {
	for _, known := range knownPlans {
		for _, key := range rightKeys {
			p := planOf(key, known.counts...)
			wantPlanOk(t, p, true)
			wantSectors(t, p, int64(len(known.regions)))
			for at, region := range known.regions {
				wantRegion(t, p, int64(at), region)
			}
			for region, first := range known.firsts {
				wantFirst(t, p, int64(region), first)
			}
		}
	}
}

func TestNoSuchSectorOrRegion(t *testing.T) {
	for _, known := range knownPlans {
		p := planOf(77, known.counts...)
		for at := int64(len(known.regions)); at <= 2*impl.MaxSectors; at++ {
			wantRegion(t, p, at, -1)
		}
		for region := int64(len(known.firsts)); region <= 2*impl.MaxSectors; region++ {
			wantFirst(t, p, region, -1)
		}
		for _, number := range wrongNumbers {
			wantRegion(t, p, number, -1)
			wantFirst(t, p, number, -1)
		}
	}
}

func TestPlansWithoutAKey(t *testing.T) {
	for _, key := range wrongKeys {
		for _, known := range knownPlans {
			wantNoPlan(t, planOf(key, known.counts...))
		}
		for _, counts := range wrongCounts {
			wantNoPlan(t, planOf(key, counts...))
		}
	}
	wantNoPlan(t, impl.Plan{})
}

func TestPlansWithWrongCounts(t *testing.T) {
	for _, counts := range wrongCounts {
		for _, key := range rightKeys {
			wantNoPlan(t, planOf(key, counts...))
		}
	}
}

// TestPlansWithOneWrongCount puts each wrong count at each place of each known plan.
func TestPlansWithOneWrongCount(t *testing.T) {
	for _, known := range knownPlans {
		for place := range known.counts {
			for _, wrong := range []int64{math.MinInt64, math.MinInt64 + 1, -8, -2, -1, 0, 9, 10, 16, 24, 25, 4294967297, math.MaxInt64 - 1, math.MaxInt64} {
				counts := slices.Clone(known.counts)
				counts[place] = wrong
				wantNoPlan(t, planOf(9, counts...))
			}
		}
	}
}

func TestPlansWithManyRegions(t *testing.T) {
	for many := range 30 {
		ones := slices.Repeat([]int64{1}, many)
		if many >= 1 && many <= impl.MaxRegions {
			wantPlanOk(t, planOf(1, ones...), true)
			wantSectors(t, planOf(1, ones...), int64(many))
			continue
		}
		wantNoPlan(t, planOf(1, ones...))
		wantNoPlan(t, planOf(1, slices.Repeat([]int64{0}, many)...))
	}
	wantNoPlan(t, planOf(1, slices.Repeat([]int64{1}, 100000)...))
}

// TestEverySectorIsInOneRegion is promise 5, of all plans there are, and of those that have too many sectors, or a count that is just none.
func TestEverySectorIsInOneRegion(t *testing.T) {
	right := 0
	for many := range impl.MaxRegions + 1 {
		eachCounts(many, 0, 9, func(counts []int64) {
			p := planOf(9, counts...)
			if many == 0 || slices.Min(counts) < 1 || slices.Max(counts) > 8 || together(counts) > 24 {
				if impl.PlanOk(p) || impl.SectorsOf(p) != -1 || impl.RegionOf(p, 0) != -1 || impl.FirstOf(p, 0) != -1 {
					t.Errorf("%v has an answer", p)
				}
				return
			}
			right++
			wantPlanOk(t, p, true)
			wantOneRegionEach(t, p)
		})
	}
	if right != 8+64+512+3766 {
		t.Fatal(right)
	}
}

// wantOneRegionEach counts how many sectors each region says to have, and looks for each sector among those of its own region alone.
func wantOneRegionEach(t *testing.T, p impl.Plan) {
	t.Helper()
	sectors := impl.SectorsOf(p)
	if sectors != together(p.Counts) {
		t.Errorf("SectorsOf(%v) = %d", p, sectors)
	}
	has := make([]int64, len(p.Counts))
	for at := range sectors {
		region := impl.RegionOf(p, at)
		if region < 0 || region >= int64(len(p.Counts)) {
			t.Fatalf("RegionOf(%v, %d) = %d", p, at, region)
		}
		has[region]++
		for other, count := range p.Counts {
			first := impl.FirstOf(p, int64(other))
			if inIt := at >= first && at < first+count; inIt != (int64(other) == region) {
				t.Errorf("the sector %d of %v is in the region %d, and the region %d begins with %d", at, p, region, other, first)
			}
		}
	}
	if !slices.Equal(has, p.Counts) {
		t.Errorf("the regions of %v have %v sectors", p, has)
	}
	wantRegion(t, p, sectors, -1)
	wantFirst(t, p, int64(len(p.Counts)), -1)
}

// TestFirstAndLastSectors asks for both ends of each region, whose neighbours are in the regions beside it.
func TestFirstAndLastSectors(t *testing.T) {
	draw := rand.New(rand.NewSource(12))
	for range 2000 {
		counts := make([]int64, draw.Intn(impl.MaxRegions)+1)
		for i := range counts {
			counts[i] = draw.Int63n(6) + 1
		}
		p := planOf(draw.Int63n(impl.MaxKey)+1, counts...)
		first := int64(0)
		for region, count := range counts {
			wantFirst(t, p, int64(region), first)
			wantRegion(t, p, first, int64(region))
			wantRegion(t, p, first+count-1, int64(region))
			wantRegion(t, p, first-1, int64(region)-1)
			first += count
		}
		wantSectors(t, p, first)
		wantRegion(t, p, first, -1)
	}
}

func TestPlansStay(t *testing.T) {
	for _, counts := range [][]int64{{3, 1, 2, 5, 8, 8}, {8, 8, 8, 1, 9, 7}, {0, 9, -1, 4, 4, 4}} {
		for many := range len(counts) + 1 {
			given := slices.Clone(counts)
			p := impl.Plan{Key: 9, Counts: given[:many]}
			ok, sectors := impl.PlanOk(p), impl.SectorsOf(p)
			var regions, firsts []int64
			for number := int64(-1); number <= impl.MaxSectors; number++ {
				regions = append(regions, impl.RegionOf(p, number))
				firsts = append(firsts, impl.FirstOf(p, number))
			}
			if !slices.Equal(given, counts) || len(p.Counts) != many || p.Key != 9 {
				t.Fatalf("%v became %v", counts[:many], given)
			}
			again := planOf(9, counts[:many]...)
			wantPlanOk(t, again, ok)
			wantSectors(t, again, sectors)
			for i, number := 0, int64(-1); number <= impl.MaxSectors; i, number = i+1, number+1 {
				wantRegion(t, again, number, regions[i])
				wantFirst(t, again, number, firsts[i])
			}
		}
	}
}

// TestPlansKeepNothing changes the Counts of a plan that was asked about already.
func TestPlansKeepNothing(t *testing.T) {
	p := planOf(9, 3, 1, 2)
	for range 3 {
		p.Counts[0] = 3
		wantSectors(t, p, 6)
		wantRegion(t, p, 3, 1)
		wantFirst(t, p, 1, 3)
		p.Counts[0] = 0
		wantNoPlan(t, p)
		p.Counts[0] = 5
		wantSectors(t, p, 8)
		wantRegion(t, p, 3, 0)
		wantFirst(t, p, 1, 5)
	}
}
