package tests

import (
	"math"
	"slices"
	"testing"

	"loop.example/g00597/impl"
)

// isWorldSlowly tells by the definition alone what IsWorld returns.
func isWorldSlowly(w impl.World) bool {
	ok := impl.IsFrame(w.Frame) && len(w.Ended) == len(w.Certs) && len(w.Archives) >= 1 && len(w.Archives) <= 4 && len(w.Seqs) == len(w.Frame.Authorities) && len(w.Lying) <= w.Frame.Liars && w.Next >= 1
	for i, c := range w.Certs {
		ok = ok && impl.CheckCert(w.Frame.Keys, c) && !slices.ContainsFunc(w.Certs[:i], func(other impl.Cert) bool { return other.Serial == c.Serial })
	}
	for _, ended := range w.Ended {
		ok = ok && ended >= -1 && ended <= 10001
	}
	ids := []int{}
	for i, a := range w.Archives {
		ok = ok && a.Id == i && isArchiveSlowly(a)
		for _, x := range a.Items {
			ok = ok && !slices.Contains(ids, x.Id) && w.Next > x.Id
			ids = append(ids, x.Id)
		}
	}
	for _, seq := range w.Seqs {
		ok = ok && seq >= 0
	}
	for i, id := range w.Lying {
		_, k := authoritySlowly(w.Frame.Authorities, id)
		ok = ok && k >= 0 && (i == 0 || w.Lying[i-1] < id)
	}
	for i, id := range w.Forged {
		ok = ok && (i == 0 || w.Forged[i-1] < id)
	}
	return ok
}

func TestWorldTables(t *testing.T) {
	keys := []impl.Key{
		key(1, 90, 1, 0, 501), key(2, 90, 3, 40, 502), key(11, 1, 1, 0, 511), key(12, 1, 2, 20, 512), key(13, 2, 3, 40, 513), key(21, 50, 1, 0, 521),
		key(31, 81, 1, 0, 531), key(32, 82, 2, 20, 532), key(33, 83, 3, 40, 533), key(34, 84, 4, 60, 534),
	}
	if got := impl.WorldKeys(); !slices.Equal(got, keys) || !impl.AreKeys(got) {
		t.Errorf("WorldKeys() = %v", got)
	}
	methods := []impl.Method{method(1, 0, 40, 50), method(2, 20, 80, 70), method(3, 40, 120, 200), method(4, 60, 10001, 10001)}
	if got := impl.WorldMethods(); !slices.Equal(got, methods) || !impl.AreMethods(got) {
		t.Errorf("WorldMethods() = %v", got)
	}
}

func TestNewWorld(t *testing.T) {
	for liars, want := range map[int]int{0: 0, 1: 1, 2: 1, 5: 1, -1: 0, -7: 0, math.MinInt: 0, math.MaxInt: 1} {
		w := impl.World{
			Frame: impl.Frame{
				Keys: impl.WorldKeys(), Authorities: []impl.Authority{authority(1, 31, 1), authority(2, 32, 2), authority(3, 33, 1), authority(4, 34, 0)}, Methods: impl.WorldMethods(), Liars: want,
			},
			Ended: []int{-1, -1, -1}, Archives: []impl.Archive{{}, {Id: 1}}, Seqs: []int{0, 0, 0, 0}, Next: 1,
		}
		for _, c := range []impl.Cert{cert(1, 11, 1, 0, 60, 1), cert(2, 12, 1, 20, 100, 1), cert(3, 13, 2, 40, 150, 2)} {
			k, _ := keySlowly(w.Frame.Keys, c.Issuer)
			w.Certs = append(w.Certs, certs.markedBy(k, c))
		}
		if want == 1 {
			w.Lying = []int{1}
		}
		got := impl.NewWorld(liars)
		if !same(got, w) || !impl.IsWorld(got) || !isWorldSlowly(got) {
			t.Errorf("NewWorld(%d) = %v, want %v", liars, got, w)
		}
	}
}

// worldChanges change one field each. Those that are true leave a busyWorld valid.
var worldChanges = []struct {
	isValid bool
	change  func(w *impl.World)
}{
	{true, func(w *impl.World) { w.Frame.Now = 10000 }}, {false, func(w *impl.World) { w.Frame.Now = -1 }}, {false, func(w *impl.World) { w.Frame.Now = 10001 }}, {true, func(w *impl.World) { w.Frame.Liars = 6 }}, {false, func(w *impl.World) { w.Frame.Liars = 7 }},
	{false, func(w *impl.World) { w.Frame.Keys[0], w.Frame.Keys[1] = w.Frame.Keys[1], w.Frame.Keys[0] }}, {true, func(w *impl.World) { w.Frame.Keys[9].Secret++ }}, {false, func(w *impl.World) { w.Frame.Keys[9].Secret = 0 }}, {false, func(w *impl.World) { w.Frame.Keys[2].Owner++ }}, {false, func(w *impl.World) { w.Frame.Keys[0].Secret++ }},
	{true, func(w *impl.World) { w.Frame.Methods[3].Ends = 100 }}, {false, func(w *impl.World) { w.Frame.Methods[3].Ends = 60 }}, {true, func(w *impl.World) { w.Frame.Methods = w.Frame.Methods[:3] }},
	{true, func(w *impl.World) { w.Frame.Authorities[2].Error = 100 }}, {false, func(w *impl.World) { w.Frame.Authorities[2].Error = 101 }}, {false, func(w *impl.World) { w.Frame.Authorities[1].Id = 1 }}, {false, func(w *impl.World) { w.Frame.Authorities = w.Frame.Authorities[:3] }}, {false, func(w *impl.World) { w.Frame.Authorities = nil }},
	{false, func(w *impl.World) { w.Certs[2].Mark++ }}, {false, func(w *impl.World) { w.Certs[0].To++ }}, {false, func(w *impl.World) { w.Certs[1] = w.Certs[0] }}, {false, func(w *impl.World) { w.Certs[2] = w.Certs[0] }}, {false, func(w *impl.World) { w.Certs = w.Certs[:2] }}, {false, func(w *impl.World) { w.Certs = append(w.Certs, impl.Cert{}) }},
	{false, func(w *impl.World) {
		w.Certs[2] = certs.markedBy(w.Frame.Keys[1], cert(1, 13, 2, 40, 150, 2))
	}},
	{true, func(w *impl.World) { w.Certs, w.Ended = w.Certs[:2], w.Ended[:2] }}, {true, func(w *impl.World) { w.Certs, w.Ended = nil, nil }}, {true, func(w *impl.World) { slices.Reverse(w.Certs) }},
	{false, func(w *impl.World) { w.Ended = w.Ended[:2] }}, {false, func(w *impl.World) { w.Ended = append(w.Ended, -1) }}, {false, func(w *impl.World) { w.Ended = nil }}, {false, func(w *impl.World) { w.Ended[1] = -2 }}, {true, func(w *impl.World) { w.Ended[0] = -1 }}, {true, func(w *impl.World) { w.Ended[2] = 10001 }}, {false, func(w *impl.World) { w.Ended[2] = 10002 }}, {true, func(w *impl.World) { w.Ended[1] = 0 }},
	{false, func(w *impl.World) { w.Archives = nil }}, {true, func(w *impl.World) { w.Archives = w.Archives[:1] }}, {true, func(w *impl.World) { w.Archives = append(w.Archives, impl.Archive{Id: 2}) }}, {true, func(w *impl.World) { w.Archives = append(w.Archives, impl.Archive{Id: 2}, impl.Archive{Id: 3}) }}, {false, func(w *impl.World) {
		w.Archives = append(w.Archives, impl.Archive{Id: 2}, impl.Archive{Id: 3}, impl.Archive{Id: 4})
	}},
	{false, func(w *impl.World) { w.Archives[0].Id = 1 }}, {false, func(w *impl.World) { w.Archives[1].Id = 0 }}, {false, func(w *impl.World) { w.Archives[1].Id = 2 }}, {false, func(w *impl.World) { slices.Reverse(w.Archives) }}, {false, func(w *impl.World) { w.Archives[0].Items[0].Keep = -1 }}, {false, func(w *impl.World) { slices.Reverse(w.Archives[1].Items) }}, {true, func(w *impl.World) { w.Archives[1].Items = nil }},
	{false, func(w *impl.World) { w.Archives[0].Items = append(w.Archives[0].Items, w.Archives[1].Items[1]) }}, {false, func(w *impl.World) { w.Archives[0].Items = w.Archives[1].Items[:1] }}, {true, func(w *impl.World) { w.Archives[0].Items[0].Keep = 0 }}, {true, func(w *impl.World) { w.Archives[1].Items[0].Strand.Chain[0].Stamps[0].Mark++ }},
	{false, func(w *impl.World) { w.Seqs = w.Seqs[:3] }}, {false, func(w *impl.World) { w.Seqs = append(w.Seqs, 0) }}, {false, func(w *impl.World) { w.Seqs[3] = -1 }}, {false, func(w *impl.World) { w.Seqs[0] = -1 }}, {true, func(w *impl.World) { w.Seqs[1] = math.MaxInt }},
	{true, func(w *impl.World) { w.Lying = nil }}, {true, func(w *impl.World) { w.Lying = []int{4} }}, {false, func(w *impl.World) { w.Lying = []int{5} }}, {false, func(w *impl.World) { w.Lying = []int{0} }}, {false, func(w *impl.World) { w.Lying = []int{1, 2} }}, {false, func(w *impl.World) { w.Frame.Liars = 0 }},
	{false, func(w *impl.World) { w.Frame.Liars, w.Lying = 2, []int{2, 1} }}, {false, func(w *impl.World) { w.Frame.Liars, w.Lying = 2, []int{2, 2} }}, {true, func(w *impl.World) { w.Frame.Liars, w.Lying = 2, []int{1, 4} }}, {false, func(w *impl.World) { w.Frame.Liars, w.Lying = 2, []int{1, 9} }}, {true, func(w *impl.World) { w.Frame.Liars, w.Lying = 4, []int{1, 2, 3, 4} }},
	{false, func(w *impl.World) { w.Next = 0 }}, {false, func(w *impl.World) { w.Next = 3 }}, {false, func(w *impl.World) { w.Next = 1 }}, {true, func(w *impl.World) { w.Next = 5 }}, {true, func(w *impl.World) { w.Next = math.MaxInt }}, {false, func(w *impl.World) { w.Next = -1 }}, {false, func(w *impl.World) { w.Archives[0].Items[0].Id = 4 }}, {true, func(w *impl.World) { w.Archives[1].Items, w.Next = nil, 3 }}, {false, func(w *impl.World) { w.Archives[1].Items, w.Next = nil, 2 }}, {false, func(w *impl.World) { w.Archives, w.Next = []impl.Archive{{}}, 0 }},
	{true, func(w *impl.World) { w.Forged = nil }}, {true, func(w *impl.World) { w.Forged = []int{-4, 0, 3, 7777} }}, {false, func(w *impl.World) { w.Forged = []int{3, 3} }}, {false, func(w *impl.World) { w.Forged = []int{1, 3, 2} }}, {false, func(w *impl.World) { w.Forged = []int{3, 1} }}, {true, func(w *impl.World) { w.Forged = []int{2} }},
}

func TestIsWorld(t *testing.T) {
	if w := busyWorld(); !impl.IsWorld(w) || !isWorldSlowly(w) {
		t.Fatalf("IsWorld(%v) = false", w)
	}
	for i, c := range worldChanges {
		w := busyWorld()
		c.change(&w)
		if got := impl.IsWorld(w); got != c.isValid {
			t.Errorf("change %d: IsWorld(%v) = %t", i, w, got)
		}
		if isWorldSlowly(w) != c.isValid {
			t.Errorf("change %d: by its definition, IsWorld is %t", i, !c.isValid)
		}
	}
	for _, x := range badItems() {
		w := busyWorld()
		x.Id = 2
		w.Archives[0].Items[0] = x
		if got := impl.IsWorld(w); got != isItemSlowly(x) {
			t.Errorf("IsWorld with the item %v = %t", x, got)
		}
	}
	if impl.IsWorld(impl.World{}) || !impl.IsWorld(impl.World{Archives: []impl.Archive{{}}, Next: 1}) {
		t.Error("the least worlds")
	}
}

func TestFindIn(t *testing.T) {
	w := busyWorld()
	for id, want := range map[int][2]int{1: {1, 0}, 2: {0, 0}, 3: {1, 1}, 0: {-1, -1}, 4: {-1, -1}, -1: {-1, -1}, math.MinInt: {-1, -1}, math.MaxInt: {-1, -1}} {
		if i, k := impl.FindIn(w, id); i != want[0] || k != want[1] {
			t.Errorf("FindIn(%d) = %d, %d, want %v", id, i, k, want)
		}
		if i, k := impl.FindIn(impl.World{}, id); i != -1 || k != -1 {
			t.Errorf("FindIn(%d) in nothing = %d, %d", id, i, k)
		}
	}
	// An item in two archives is the one in the first of these; the Ids of archives do not matter.
	w.Archives = []impl.Archive{{Id: 7}, archiveOf(9, 3, 5), archiveOf(-1, 5, 5, 2), archiveOf(2, 9, 3)}
	for id, want := range map[int][2]int{3: {1, 0}, 5: {1, 1}, 2: {2, 2}, 9: {3, 0}, 7: {-1, -1}} {
		if i, k := impl.FindIn(w, id); i != want[0] || k != want[1] {
			t.Errorf("FindIn(%d) = %d, %d, want %v", id, i, k, want)
		}
	}
}

func TestEqualWorlds(t *testing.T) {
	w := busyWorld()
	if !impl.EqualWorlds(w, clone(w)) || !impl.EqualWorlds(w, spared(w)) || impl.EqualWorlds(w, impl.NewWorld(1)) || impl.EqualWorlds(impl.NewWorld(0), impl.NewWorld(1)) {
		t.Error("worlds that are equal, or are not")
	}
	more := []func(w *impl.World){
		func(w *impl.World) { w.Frame.Now++ }, func(w *impl.World) { w.Frame.Liars++ }, func(w *impl.World) { w.Frame.Keys[3].Born++ }, func(w *impl.World) { w.Frame.Keys = w.Frame.Keys[:9] }, func(w *impl.World) { w.Frame.Authorities[3].Key++ }, func(w *impl.World) { w.Frame.Methods[0].Known++ },
		func(w *impl.World) { w.Certs[1].Serial++ }, func(w *impl.World) { w.Ended[0]++ }, func(w *impl.World) { w.Archives[1].Items[1].Doc.Parts[0] += "!" }, func(w *impl.World) { w.Archives[1].Items[0].Strand.Pieces[2].Mark++ }, func(w *impl.World) { w.Seqs[0]++ }, func(w *impl.World) { w.Next++ }, func(w *impl.World) { w.Forged[0]++ }, func(w *impl.World) { w.Lying[0]++ },
	}
	for _, c := range worldChanges {
		more = append(more, c.change)
	}
	for i, change := range more {
		other := clone(w)
		change(&other)
		if impl.EqualWorlds(w, other) || impl.EqualWorlds(other, w) || !impl.EqualWorlds(other, other) {
			t.Errorf("change %d: EqualWorlds(%v, %v) = true", i, w, other)
		}
	}
	empty := impl.World{
		Frame: impl.Frame{Keys: []impl.Key{}, Authorities: []impl.Authority{}, Methods: []impl.Method{}}, Certs: []impl.Cert{}, Ended: []int{}, Archives: []impl.Archive{}, Seqs: []int{}, Lying: []int{}, Forged: []int{},
	}
	if !impl.EqualWorlds(impl.World{}, empty) || !impl.EqualWorlds(empty, impl.World{}) {
		t.Error("nil and empty lists differ")
	}
}

func TestWorldsLeaveArgumentsAlone(t *testing.T) {
	checkMemory(t, "NewWorld", 1, func(liars int) impl.World { return impl.NewWorld(liars) })
	checkMemory(t, "WorldKeys", 0, func(int) []impl.Key { return impl.WorldKeys() })
	checkMemory(t, "WorldMethods", 0, func(int) []impl.Method { return impl.WorldMethods() })
	for _, w := range []impl.World{{}, impl.NewWorld(0), busyWorld()} {
		checkMemory(t, "worlds", w, func(w impl.World) bool {
			i, k := impl.FindIn(w, 3)
			return impl.IsWorld(w) || impl.EqualWorlds(w, w) || i > k
		})
	}
}
