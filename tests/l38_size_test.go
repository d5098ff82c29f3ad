package tests

import (
	"math"
	"slices"
	"testing"

	"loop.example/g00597/impl"
)

// sized returns a renewal with so many steps and stamps.
func sized(steps int, stamps int) impl.Renewal {
	return impl.Renewal{Count: 1000, Method: 50, Root: 9, Path: make([]impl.Step, steps), Stamps: make([]impl.Stamp, stamps)}
}

// strandSized returns a strand with pieces of so many Ints, and these renewals.
func strandSized(ints []int, renewals ...impl.Renewal) impl.Strand {
	s := impl.Strand{Chain: renewals}
	for _, n := range ints {
		s.Pieces = append(s.Pieces, impl.Piece{Key: 77, Ints: make([]int, n), Mark: 99})
	}
	return s
}

// archiveSized returns an archive with items of these strands.
func archiveSized(strands ...impl.Strand) impl.Archive {
	a := impl.Archive{Id: 70}
	for i, s := range strands {
		a.Items = append(a.Items, impl.Item{Id: i, Keep: 40, Doc: threeParts(), Strand: s})
	}
	return a
}

func TestRenewalSize(t *testing.T) {
	for steps := range 8 {
		for stamps := range 9 {
			if got := impl.RenewalSize(sized(steps, stamps)); got != 3+2*steps+6*stamps {
				t.Errorf("RenewalSize with %d steps and %d stamps = %d", steps, stamps, got)
			}
		}
	}
	if impl.RenewalSize(impl.Renewal{}) != 3 || impl.RenewalSize(sized(1, 0)) != 5 || impl.RenewalSize(sized(0, 1)) != 9 || impl.RenewalSize(sized(2, 3)) != 25 {
		t.Error("the sizes of some renewals")
	}
}

func TestStrandSize(t *testing.T) {
	cases := []struct {
		s    impl.Strand
		want int
	}{
		{impl.Strand{}, 0}, {strandSized([]int{0}), 2}, {strandSized([]int{0, 0}), 4}, {strandSized([]int{9}), 11}, {strandSized([]int{9, 7, 5}), 27}, {strandSized(nil, sized(0, 0)), 3}, {strandSized(nil, sized(1, 2), sized(4, 6)), 17 + 47},
		{strandSized([]int{9, 5}, sized(2, 3), sized(0, 0)), 46}, {strandSized([]int{1}, sized(0, 0), sized(0, 0), sized(0, 0)), 12}, {impl.Strand{Pieces: []impl.Piece{}, Chain: []impl.Renewal{}}, 0},
	}
	for _, c := range cases {
		if got := impl.StrandSize(c.s); got != c.want {
			t.Errorf("StrandSize(%v) = %d, want %d", c.s, got, c.want)
		}
	}
	for _, s := range someStrands() {
		want := 0
		for _, r := range s.Chain {
			want += impl.RenewalSize(r)
		}
		for _, p := range s.Pieces {
			want += 2 + len(p.Ints)
		}
		if got := impl.StrandSize(s); got != want {
			t.Errorf("StrandSize(%v) = %d, want %d", s, got, want)
		}
	}
}

func TestLongestPathAndArchiveSize(t *testing.T) {
	short, long, longer := strandSized([]int{1}, sized(1, 0)), strandSized([]int{2, 3}, sized(0, 1), sized(3, 0), sized(2, 0)), strandSized(nil, sized(5, 1))
	bare, empty := strandSized([]int{4}), impl.Strand{}
	cases := []struct {
		a       impl.Archive
		longest int
		size    int
	}{
		{impl.Archive{}, 0, 0}, {impl.Archive{Items: []impl.Item{}}, 0, 0}, {archiveSized(empty), 0, 0}, {archiveSized(bare), 0, 6}, {archiveSized(bare, bare), 0, 12}, {archiveSized(strandSized(nil, sized(0, 2))), 0, 15}, {archiveSized(short), 1, 8}, {archiveSized(long), 3, 34}, {archiveSized(longer), 5, 19},
		// The longest one in the first, a middle and the last place.
		{archiveSized(longer, short, long), 5, 61}, {archiveSized(short, longer, long, empty), 5, 61}, {archiveSized(bare, long, short, longer), 5, 67}, {archiveSized(strandSized(nil, sized(4, 0), sized(1, 0))), 4, 16}, {archiveSized(strandSized(nil, sized(1, 0), sized(2, 0), sized(4, 0)), short), 4, 31},
	}
	for _, c := range cases {
		if got := impl.LongestPath(c.a); got != c.longest {
			t.Errorf("LongestPath(%v) = %d, want %d", c.a, got, c.longest)
		}
		if got := impl.ArchiveSize(c.a); got != c.size {
			t.Errorf("ArchiveSize(%v) = %d, want %d", c.a, got, c.size)
		}
	}
}

func TestSizeLimit(t *testing.T) {
	levels := map[int]int{1: 0, 2: 1, 3: 2, 4: 2, 5: 3, 8: 3, 9: 4, 15: 4, 16: 4}
	for items, k := range levels {
		for stamps := range 7 {
			if got := impl.SizeLimit(items, stamps); got != 3+2*k+6*stamps {
				t.Errorf("SizeLimit(%d, %d) = %d", items, stamps, got)
			}
		}
		for _, stamps := range []int{-1, -2, 7, 8, math.MinInt, math.MaxInt} {
			if got := impl.SizeLimit(items, stamps); got != 0 {
				t.Errorf("SizeLimit(%d, %d) = %d", items, stamps, got)
			}
		}
	}
	for _, items := range []int{0, -1, 17, 18, math.MinInt, math.MaxInt} {
		for _, stamps := range []int{-1, 0, 3, 6, 7} {
			if got := impl.SizeLimit(items, stamps); got != 0 {
				t.Errorf("SizeLimit(%d, %d) = %d", items, stamps, got)
			}
		}
	}
	for items := 1; items <= 16; items++ {
		if got := impl.SizeLimit(items, 2); got != 15+2*impl.LevelsOf(items) {
			t.Errorf("SizeLimit(%d, 2) = %d", items, got)
		}
	}
}

// Evidence grows with the logarithm: what a renewal of an archive adds is at most SizeLimit, and for one of the items it is as much.
func TestEvidenceGrowsWithTheLogarithm(t *testing.T) {
	for n := 1; n <= impl.MaxItems; n++ {
		a := archiveOf(3, upTo(n)...)
		for stamps := range 4 {
			sealed, ok := impl.SealArchive(a, 2, stampsBy(46, impl.RootFor(a, 2), upTo(stamps)...))
			limit, most, sum := impl.SizeLimit(n, stamps), 0, 0
			for i, x := range sealed.Items {
				added := impl.StrandSize(x.Strand) - impl.StrandSize(a.Items[i].Strand)
				if r := x.Strand.Chain[len(x.Strand.Chain)-1]; added != impl.RenewalSize(r) || added > limit {
					t.Errorf("of %d items, the renewal by %d stamps adds %d, and the limit is %d", n, stamps, added, limit)
				}
				most, sum = max(most, added), sum+added
			}
			if !ok || most != limit || impl.ArchiveSize(sealed) != impl.ArchiveSize(a)+sum || impl.LongestPath(sealed) != impl.LevelsOf(n) {
				t.Errorf("of %d items, the renewal by %d stamps adds %d at most, and the limit is %d", n, stamps, most, limit)
			}
		}
	}
}

func TestSizesLeaveArgumentsAlone(t *testing.T) {
	for _, a := range append(someArchives(), archiveSized(slices.Repeat([]impl.Strand{strandSized([]int{3}, sized(1, 2))}, 3)...)) {
		checkMemory(t, "sizes", a, func(a impl.Archive) int {
			sum := impl.LongestPath(a) + impl.ArchiveSize(a)
			for _, x := range a.Items {
				sum += impl.StrandSize(x.Strand)
				for _, r := range x.Strand.Chain {
					sum += impl.RenewalSize(r)
				}
			}
			return sum
		})
	}
}
