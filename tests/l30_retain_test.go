package tests

import (
	"math"
	"slices"
	"testing"

	"loop.example/g00597/impl"
)

// keeping returns an archive with the items from 1 on that are kept up to these times.
func keeping(times ...int) impl.Archive {
	a := impl.Archive{Id: 3}
	for i, keep := range times {
		a.Items = append(a.Items, itemWith(i+1, keep, renewAt(3, 2, 20+i, 2, 3)))
	}
	return a
}

// idsOf returns the Ids of all items.
func idsOf(a impl.Archive) []int {
	ids := []int{}
	for _, x := range a.Items {
		ids = append(ids, x.Id)
	}
	return ids
}

func checkForgotten(t *testing.T, a impl.Archive, now int, want ...int) {
	t.Helper()
	got, n := impl.ForgetPast(a, now)
	rest := impl.Archive{Id: a.Id}
	for _, x := range a.Items {
		if x.Keep >= now {
			rest.Items = append(rest.Items, x)
		}
	}
	if n != len(a.Items)-len(want) || !slices.Equal(idsOf(got), want) || !same(got, rest) {
		t.Errorf("ForgetPast(%v, %d) = %v, %d, want the items %v", a, now, got, n, want)
	}
}

func TestForgetPast(t *testing.T) {
	a := keeping(20, 40, 60)
	checkForgotten(t, a, 19, 1, 2, 3)
	checkForgotten(t, a, 20, 1, 2, 3)
	checkForgotten(t, a, 21, 2, 3)
	checkForgotten(t, a, 39, 2, 3)
	checkForgotten(t, a, 40, 2, 3)
	checkForgotten(t, a, 41, 3)
	checkForgotten(t, a, 60, 3)
	checkForgotten(t, a, 61)
	checkForgotten(t, a, math.MaxInt)
	checkForgotten(t, a, math.MinInt, 1, 2, 3)
	checkForgotten(t, impl.Archive{Id: 3}, 50)
	checkForgotten(t, keeping(), math.MaxInt)
	checkForgotten(t, keeping(60, 20, 40, 20, 50), 40, 1, 3, 5)
	checkForgotten(t, keeping(5, 5, 5), 5, 1, 2, 3)
	checkForgotten(t, keeping(5, 5, 5), 6)
	// The archive need not be valid.
	checkForgotten(t, keeping(-1, math.MinInt, math.MaxInt), 0, 3)
	checkForgotten(t, archiveOf(-3, 5, 2, 5), 53, 5, 5)
	checkForgotten(t, archiveOf(100, upTo(9)...), 58, 8, 9)
}

func checkDropped(t *testing.T, a impl.Archive, id int, wantOk bool, want ...int) {
	t.Helper()
	rest := clone(a)
	if i := findSlowlyIn(a, id); i >= 0 {
		rest.Items = slices.Delete(rest.Items, i, i+1)
	}
	if got, ok := impl.DropItem(a, id); ok != wantOk || !slices.Equal(idsOf(got), want) || !same(got, rest) {
		t.Errorf("DropItem(%v, %d) = %v, %t, want the items %v", a, id, got, ok, want)
	}
}

func TestDropItem(t *testing.T) {
	a := archiveOf(3, 2, 5, 9)
	checkDropped(t, a, 2, true, 5, 9)
	checkDropped(t, a, 5, true, 2, 9)
	checkDropped(t, a, 9, true, 2, 5)
	for _, id := range []int{0, 1, 3, 10, -1, math.MinInt, math.MaxInt} {
		checkDropped(t, a, id, false, 2, 5, 9)
		checkDropped(t, impl.Archive{Id: 3}, id, false)
	}
	checkDropped(t, archiveOf(3, 7), 7, true)
	// Of two with one Id, the first one goes.
	twice := archiveOf(3, 5, 2, 5, 9)
	twice.Items[2].Keep++
	checkDropped(t, twice, 5, true, 2, 5, 9)
	checkDropped(t, archiveOf(-1, 0, 0), 0, true, 0)
	for _, a := range someArchives() {
		for id := range 11 {
			got, ok := impl.DropItem(a, id)
			if ok != (findSlowlyIn(a, id) >= 0) || ok && len(got.Items) != len(a.Items)-1 || impl.IsArchive(a) && !impl.IsArchive(got) {
				t.Errorf("DropItem(%v, %d) = %v, %t", a, id, got, ok)
			}
		}
	}
}

// renewedBy returns an item that is signed by one method and renewed by others.
func renewedBy(own int, methods ...int) impl.Item {
	x := itemWith(7, 50)
	x.Sig.Method = own
	for _, m := range methods {
		x.Strand.Chain = append(x.Strand.Chain, impl.Renewal{Method: m})
	}
	return x
}

func TestMethodsOf(t *testing.T) {
	cases := []struct {
		x    impl.Item
		want []int
	}{
		{renewedBy(2), []int{2}}, {renewedBy(2, 2), []int{2}}, {renewedBy(2, 3), []int{2, 3}}, {renewedBy(3, 2), []int{2, 3}}, {renewedBy(2, 1, 3), []int{1, 2, 3}}, {renewedBy(1, 3, 2), []int{1, 2, 3}},
		{renewedBy(2, 5, 5, 1, 2, 1, 5), []int{1, 2, 5}}, {renewedBy(4, 4, 4, 4), []int{4}}, {renewedBy(9, 1, 9, 1), []int{1, 9}}, {impl.Item{}, []int{0}}, {renewedBy(-1, 100, math.MaxInt, math.MinInt), []int{math.MinInt, -1, 100, math.MaxInt}},
	}
	for _, c := range cases {
		if got := impl.MethodsOf(c.x); !slices.Equal(got, c.want) {
			t.Errorf("MethodsOf(%v) = %v, want %v", c.x, got, c.want)
		}
	}
}

// threefold returns an item with threeParts, signed by 11 with the method 2, and renewed by others.
func threefold() impl.Item {
	x, pieces := piecesFor(threeParts())
	return impl.Item{Id: 7, Keep: 50, Doc: threeParts(), Sig: x, Strand: strandWith(threeParts(), pieces, renewAt(3, 3, 28, 1, 2), renewAt(3, 1, 30, 2, 3), renewAt(3, 2, 45, 2, 3))}
}

func TestRedactItem(t *testing.T) {
	x := threefold()
	for _, hide := range append(subsets(3), []int{1, 1}, []int{-1}, []int{3}, []int{-1, 2, 3, 2, math.MaxInt, math.MinInt}, nil) {
		want := redactSlowly([]int{1, 2, 3}, x.Doc, hide)
		if got, ok := impl.RedactItem(x, hide); !ok || !sameRedacted(got, want) {
			t.Errorf("RedactItem with %v hidden = %v, %t, want %v", hide, got, ok, want)
		}
	}
	for _, d := range badDocuments {
		bad := x
		bad.Doc = d
		if got, ok := impl.RedactItem(bad, []int{0}); ok || !sameRedacted(got, impl.Redacted{}) {
			t.Errorf("RedactItem of the document %v = %v, %t", d, got, ok)
		}
	}
	if got, ok := impl.RedactItem(renewedBy(2), []int{0}); !ok || !slices.Equal(got.Methods, []int{2}) || len(got.Digests[0]) != 1 {
		t.Errorf("RedactItem of an item without renewals = %v, %t", got, ok)
	}
}

// What is hidden changes nothing.
func TestJudgeHidden(t *testing.T) {
	for _, x := range []impl.Item{threefold(), itemWith(8, 50, renewAt(3, 2, 28, 1, 2, 3), renewAt(3, 2, 45, 2, 3)), itemWith(9, 50)} {
		for _, now := range []int{4, 29, 30, 49, 50, 90, 120} {
			f := centuryFrame(now, 0)
			want := judgedItemSlowly(f, x)
			for _, hide := range subsets(len(x.Doc.Parts)) {
				r, ok := impl.RedactItem(x, hide)
				if got := impl.JudgeHidden(f, x, r); !ok || got != want || got != impl.JudgeItem(f, x) {
					t.Errorf("now %d, with %v hidden: JudgeHidden(%v) = %v, want %v", now, hide, x, got, want)
				}
			}
		}
	}
}

func TestJudgeHiddenWithOtherDocuments(t *testing.T) {
	f, x := centuryFrame(30, 0), threefold()
	x.Strand = strandWith(x.Doc, x.Strand.Pieces, renewAt(3, 1, 27, 3), renewAt(3, 2, 28, 3))
	// Without digests by the method 1, the first renewal proves nothing, unless these can be made from what is shown.
	for _, c := range []struct {
		r  impl.Redacted
		to int
	}{
		{redacted([]int{1, 2}, x.Doc, 0), 27}, {redacted([]int{2}, x.Doc, 0), 28}, {redacted([]int{2}, x.Doc), 27}, {redacted(nil, x.Doc), 27},
	} {
		if got := impl.JudgeHidden(f, x, c.r); got != verdict(1, 0, span(5, c.to)) {
			t.Errorf("JudgeHidden with %v = %v, want it to be until %d", c.r, got, c.to)
		}
	}
	if got := impl.JudgeHidden(f, x, redacted([]int{1, 3}, x.Doc, 0)); got != verdict(3, 2, span(0, 0)) {
		t.Errorf("JudgeHidden without digests by the signature's method = %v", got)
	}
	other := itemWith(8, 50)
	for _, hide := range [][]int{nil, {0}, {0, 1}} {
		r, _ := impl.RedactItem(other, hide)
		if got := impl.JudgeHidden(f, x, r); got != verdict(2, 2, span(0, 0)) {
			t.Errorf("JudgeHidden with another item's document = %v", got)
		}
	}
	if got := impl.JudgeHidden(f, x, impl.Redacted{}); got != verdict(3, 2, span(0, 0)) {
		t.Errorf("JudgeHidden with nothing = %v", got)
	}
	// The document that the item has itself does not matter.
	r, _ := impl.RedactItem(x, []int{1})
	x.Doc = impl.Document{}
	if got := impl.JudgeHidden(f, x, r); got.Code != impl.VdValid {
		t.Errorf("JudgeHidden of an item without its document = %v", got)
	}
}

// What is forgotten changes nothing for the rest.
func TestWhatRemainsKeepsItsVerdict(t *testing.T) {
	a := impl.Archive{Id: 3, Items: []impl.Item{itemWith(2, 20), itemWith(5, 50, renewAt(3, 2, 28, 1, 2), renewAt(3, 2, 45, 2, 3)), itemWith(9, 90)}}
	sealed, _ := impl.SealArchive(a, 2, stampsBy(46, impl.RootFor(a, 2), 2, 3))
	for _, now := range []int{47, 90} {
		f := centuryFrame(now, 0)
		want := map[int]impl.Verdict{}
		for _, x := range sealed.Items {
			want[x.Id] = impl.JudgeItem(f, x)
		}
		kept, n := impl.ForgetPast(sealed, 21)
		rest, ok := impl.DropItem(kept, 9)
		if n != 1 || !ok || !slices.Equal(idsOf(rest), []int{5}) || !impl.IsArchive(rest) {
			t.Fatalf("what remains is %v", rest)
		}
		for _, x := range append(kept.Items, rest.Items...) {
			if got := impl.JudgeItem(f, x); got != want[x.Id] {
				t.Errorf("now %d: the verdict of %d became %v, and was %v", now, x.Id, got, want[x.Id])
			}
		}
	}
}

func TestKeptUntil(t *testing.T) {
	cases := []struct {
		a    impl.Archive
		want int
	}{
		{impl.Archive{}, -1}, {keeping(0), 0}, {keeping(20), 20}, {keeping(20, 60, 40), 60}, {keeping(60, 20), 60}, {keeping(20, 60), 60}, {keeping(40, 40, 40), 40}, {keeping(10000, 0), 10000},
		{keeping(-1), -1}, {keeping(-2, -5), -1}, {keeping(math.MinInt), -1}, {keeping(3, math.MaxInt), math.MaxInt}, {keeping(math.MinInt, 0), 0},
	}
	for _, c := range cases {
		if got := impl.KeptUntil(c.a); got != c.want {
			t.Errorf("KeptUntil(%v) = %d, want %d", c.a, got, c.want)
		}
	}
}

// retainArgs are arguments of functions about retention.
type retainArgs struct {
	Frame    impl.Frame
	Archive  impl.Archive
	Item     impl.Item
	Hide     []int
	Redacted impl.Redacted
}

func TestRetentionLeavesArgumentsAlone(t *testing.T) {
	for _, a := range append(someArchives(), keeping(20, 40, 60), keeping(60, 20, 40)) {
		r, _ := impl.RedactItem(threefold(), []int{1})
		x := retainArgs{Frame: centuryFrame(90, 0), Archive: a, Item: threefold(), Hide: []int{1, 1, 9}, Redacted: r}
		for _, now := range []int{0, 41, 100} {
			checkMemory(t, "ForgetPast", x, func(x retainArgs) impl.Archive {
				got, _ := impl.ForgetPast(x.Archive, now)
				return got
			})
		}
		for _, id := range []int{1, 2, 5, 77} {
			checkMemory(t, "DropItem", x, func(x retainArgs) archiveResult {
				got, ok := impl.DropItem(x.Archive, id)
				return archiveResult{got, ok}
			})
		}
		checkMemory(t, "KeptUntil", x, func(x retainArgs) int { return impl.KeptUntil(x.Archive) })
		checkMemory(t, "MethodsOf", x, func(x retainArgs) []int { return impl.MethodsOf(x.Item) })
		checkMemory(t, "JudgeHidden", x, func(x retainArgs) impl.Verdict { return impl.JudgeHidden(x.Frame, x.Item, x.Redacted) })
		checkMemory(t, "RedactItem", x, func(x retainArgs) impl.Redacted {
			got, _ := impl.RedactItem(x.Item, x.Hide)
			return got
		})
	}
}
