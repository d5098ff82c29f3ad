package tests

import (
	"math"
	"slices"
	"testing"

	"loop.example/g00597/impl"
)

func method(id int, known int, ends int, broken int) impl.Method {
	return impl.Method{Id: id, Known: known, Ends: ends, Broken: broken}
}

// someMethods are broken before they end, when they end, after that, and never; two of them end at the same time.
var someMethods = []impl.Method{
	method(0, 0, 1, 1),
	method(1, 0, 40, 50),
	method(2, 20, 80, 70),
	method(3, 40, 80, impl.Never),
	method(5, 60, 90, 90),
	method(9, 85, impl.Never, 87),
	method(42, impl.MaxTime-1, impl.MaxTime, impl.Never),
	method(99, impl.MaxTime, impl.Never, impl.Never),
}

// oddMethods are out of order, partly not valid, and some have the same Id.
var oddMethods = []impl.Method{
	method(7, 30, 60, 40),
	method(3, 10, 20, 50),
	method(7, 5, 90, 80),
	method(-4, -50, -20, -30),
	method(100, 0, 15, 15),
	method(3, 60, 70, 70),
	method(6, math.MinInt, math.MinInt, math.MinInt),
	method(8, 500, 400, 400),
	method(11, math.MinInt, -900, math.MaxInt),
	method(12, 20000, math.MaxInt, 30000),
}

// edgesOf returns all times at the fields of the methods, one before and after them, and the ends of time and of int.
func edgesOf(l []impl.Method) []int {
	edges := []int{math.MinInt, math.MaxInt, -1, 0, 1, impl.MaxTime, impl.Never, impl.Never + 1}
	for _, m := range l {
		for _, t := range []int{m.Known, m.Ends, m.Broken} {
			edges = append(edges, t-1, t, t+1)
		}
	}
	return edges
}

func spareMethods(l []impl.Method) []impl.Method {
	return spareOf(l, method(1, 0, impl.Never, impl.Never))
}

func TestMethodConstants(t *testing.T) {
	if impl.MaxMethods != 8 || impl.Never != 10001 {
		t.Errorf("MaxMethods = %d, Never = %d", impl.MaxMethods, impl.Never)
	}
}

func TestIsMethod(t *testing.T) {
	const top, never = impl.MaxTime, impl.Never
	good := []impl.Method{
		method(0, 0, 1, 1), method(99, 0, 1, 1), method(98, 5, 6, 6),
		method(1, 0, never, never), method(1, top, never, never), method(1, top-1, top, top),
		// It is broken before it ends, when it does, after that, and never.
		method(1, 5, 9, 6), method(1, 5, 9, 8), method(1, 5, 9, 9), method(1, 5, 9, 10), method(1, 5, 9, never),
		method(1, 5, never, 9), method(1, 5, 6, never), method(1, 5, never, 6),
	}
	for _, m := range slices.Concat(good, someMethods) {
		if !impl.IsMethod(m) {
			t.Errorf("IsMethod(%v) = false", m)
		}
	}
	bad := []impl.Method{
		{}, method(-1, 0, 1, 1), method(100, 0, 1, 1), method(math.MinInt, 0, 1, 1), method(math.MaxInt, 0, 1, 1),
		method(1, -1, 1, 1), method(1, -1, never, never), method(1, math.MinInt, 1, 1),
		method(1, never, never, never), method(1, never, never+1, never+1), method(1, math.MaxInt, never, never),
		method(1, -1, 0, 1), method(1, -1, 1, 0), method(1, 0, 0, 1), method(1, 0, 1, 0), method(1, 0, 0, 0),
		method(1, 0, never+1, 5), method(1, 0, 5, never+1), method(1, 0, math.MaxInt, 5), method(1, 0, 5, math.MaxInt),
		method(1, 0, -1, 5), method(1, 0, 5, -1), method(1, 0, math.MinInt, 5), method(1, 0, 5, math.MinInt),
		method(1, 5, 5, 9), method(1, 5, 9, 5), method(1, 5, 5, 5), method(1, 5, 4, 9), method(1, 5, 9, 4),
		method(1, top, top, never), method(1, top, never, top), method(1, 1, 1, never), method(1, 1, never, 1),
	}
	for _, m := range bad {
		if impl.IsMethod(m) {
			t.Errorf("IsMethod(%v) = true", m)
		}
	}
}

// eightMethods returns the greatest list of methods that is valid.
func eightMethods() []impl.Method {
	l := []impl.Method{}
	for i := range impl.MaxMethods {
		l = append(l, method(i*14, i, 100-i, 50+i))
	}
	return l
}

func TestAreMethods(t *testing.T) {
	eight := eightMethods()
	for _, l := range [][]impl.Method{nil, {}, someMethods, {method(0, 0, 1, 1)}, {method(99, 0, 1, 1)}, eight, eight[3:]} {
		if !impl.AreMethods(l) {
			t.Errorf("AreMethods(%v) = false", l)
		}
	}
	if nine := append(slices.Clone(eight), method(99, 0, 1, 1)); impl.AreMethods(nine) {
		t.Errorf("AreMethods(%v) = true", nine)
	}
	if impl.AreMethods(oddMethods) {
		t.Errorf("AreMethods(%v) = true", oddMethods)
	}
}

func TestAreMethodsOfEachPlace(t *testing.T) {
	for i := range impl.MaxMethods {
		l := eightMethods()
		l[i].Known = l[i].Ends
		if impl.AreMethods(l) {
			t.Errorf("AreMethods(%v) = true", l)
		}
		l = eightMethods()
		l[i].Broken = 0
		if impl.AreMethods(l) {
			t.Errorf("AreMethods(%v) = true", l)
		}
		if i == 0 {
			continue
		}
		for _, down := range []int{0, 1} {
			l = eightMethods()
			l[i].Id = l[i-1].Id - down
			if impl.AreMethods(l) {
				t.Errorf("AreMethods(%v) = true", l)
			}
		}
		l = eightMethods()
		l[i].Id = l[i-1].Id + 1
		if !impl.AreMethods(l) {
			t.Errorf("AreMethods(%v) = false", l)
		}
	}
}

// methodById tells by the definition alone which method has an Id.
func methodById(l []impl.Method, id int) (impl.Method, int) {
	for i, m := range l {
		if m.Id == id {
			return m, i
		}
	}
	return impl.Method{}, -1
}

func TestFindMethod(t *testing.T) {
	cases := []struct {
		l        []impl.Method
		id, want int
	}{
		{nil, 0, -1}, {nil, -1, -1}, {[]impl.Method{}, 1, -1},
		{someMethods, 0, 0}, {someMethods, 3, 3}, {someMethods, 5, 4}, {someMethods, 99, 7},
		{someMethods, 4, -1}, {someMethods, -1, -1}, {someMethods, 100, -1}, {someMethods, 98, -1},
		{someMethods, math.MinInt, -1}, {someMethods, math.MaxInt, -1}, {someMethods, 1<<32 + 1, -1},
		{oddMethods, 7, 0}, {oddMethods, 3, 1}, {oddMethods, -4, 3}, {oddMethods, 100, 4}, {oddMethods, 6, 6}, {oddMethods, 0, -1},
		{oddMethods[1:], 7, 1}, {oddMethods[2:], 3, 3},
		{slices.Repeat([]impl.Method{method(4, 1, 2, 2)}, 20), 4, 0},
	}
	for _, c := range cases {
		if got := impl.FindMethod(c.l, c.id); got != c.want {
			t.Errorf("FindMethod(%v, %d) = %d, want %d", c.l, c.id, got, c.want)
		}
	}
}

func TestBreakOf(t *testing.T) {
	cases := []struct {
		l        []impl.Method
		id, want int
	}{
		{nil, 0, 0}, {someMethods, 0, 1}, {someMethods, 1, 50}, {someMethods, 2, 70}, {someMethods, 3, impl.Never},
		{someMethods, 4, 0}, {someMethods, -1, 0}, {someMethods, 100, 0}, {someMethods, 99, impl.Never},
		{oddMethods, 7, 40}, {oddMethods[1:], 7, 80}, {oddMethods, 3, 50}, {oddMethods, -4, -30},
		{oddMethods, 6, math.MinInt}, {oddMethods, 11, math.MaxInt}, {oddMethods, 12, 30000},
	}
	for _, c := range cases {
		if got := impl.BreakOf(c.l, c.id); got != c.want {
			t.Errorf("BreakOf(%v, %d) = %d, want %d", c.l, c.id, got, c.want)
		}
	}
}

func TestIsAlive(t *testing.T) {
	cases := []struct {
		l    []impl.Method
		id   int
		t    int
		want bool
	}{
		// It is broken after it ends.
		{someMethods, 1, -1, false}, {someMethods, 1, 0, true}, {someMethods, 1, 39, true}, {someMethods, 1, 40, true},
		{someMethods, 1, 41, true}, {someMethods, 1, 49, true}, {someMethods, 1, 50, false}, {someMethods, 1, 51, false},
		// It ends after it is broken.
		{someMethods, 2, 19, false}, {someMethods, 2, 20, true}, {someMethods, 2, 69, true}, {someMethods, 2, 70, false},
		{someMethods, 2, 71, false}, {someMethods, 2, 79, false}, {someMethods, 2, 80, false},
		{someMethods, 9, 84, false}, {someMethods, 9, 85, true}, {someMethods, 9, 86, true}, {someMethods, 9, 87, false},
		{someMethods, 9, impl.MaxTime, false},
		// It is broken when it ends, and never.
		{someMethods, 5, 59, false}, {someMethods, 5, 60, true}, {someMethods, 5, 89, true}, {someMethods, 5, 90, false},
		{someMethods, 3, 39, false}, {someMethods, 3, 40, true}, {someMethods, 3, impl.MaxTime, true}, {someMethods, 3, impl.Never, false},
		// There is no such method.
		{someMethods, 4, 45, false}, {someMethods, -1, 45, false}, {someMethods, -1, 0, false}, {nil, 0, 0, false}, {nil, -1, -1, false},
		// The first one with the Id counts.
		{oddMethods, 7, 30, true}, {oddMethods, 7, 29, false}, {oddMethods, 7, 40, false}, {oddMethods, 7, 60, false},
		{oddMethods, 3, 49, true}, {oddMethods, 3, 65, false},
	}
	for _, c := range cases {
		if got := impl.IsAlive(c.l, c.id, c.t); got != c.want {
			t.Errorf("IsAlive(%v, %d, %d) = %t", c.l, c.id, c.t, got)
		}
	}
}

func TestNothingIsAliveFromItsBreakOn(t *testing.T) {
	for _, l := range [][]impl.Method{someMethods, eightMethods(), oddMethods[:2]} {
		for _, m := range l {
			if !impl.IsAlive(l, m.Id, m.Known) || !impl.IsAlive(l, m.Id, m.Broken-1) {
				t.Errorf("%v is not alive although it is known and not broken", m)
			}
			for time := m.Broken; time <= impl.Never+1; time++ {
				if impl.IsAlive(l, m.Id, time) {
					t.Fatalf("%v is alive at %d", m, time)
				}
			}
		}
	}
}

func TestIsAliveAsDefined(t *testing.T) {
	for _, l := range [][]impl.Method{someMethods, oddMethods, oddMethods[3:]} {
		for id := -5; id <= 101; id++ {
			m, i := methodById(l, id)
			if got := impl.FindMethod(l, id); got != i {
				t.Errorf("FindMethod(%v, %d) = %d, want %d", l, id, got, i)
			}
			for _, time := range edgesOf(l) {
				want := i >= 0 && time >= m.Known && time < m.Broken
				if got := impl.IsAlive(l, id, time); got != want {
					t.Errorf("IsAlive(%v, %d, %d) = %t", l, id, time, got)
				}
			}
		}
	}
}

func checkBestMethod(t *testing.T, l []impl.Method, time int, want int) {
	t.Helper()
	if got := impl.BestMethod(l, time); got != want {
		t.Errorf("BestMethod(%v, %d) = %d, want %d", l, time, got, want)
	}
}

func TestBestMethod(t *testing.T) {
	cases := [][2]int{
		{-1, -1}, {0, 1}, {1, 1}, {19, 1}, {20, 2}, {39, 2}, {40, 2}, {59, 2}, {60, 5}, {84, 5},
		// The break of method 2, and later of method 9, changes nothing.
		{69, 5}, {70, 5}, {79, 5}, {85, 9}, {86, 9}, {87, 9}, {88, 9}, {91, 9},
		{impl.MaxTime - 1, 9}, {impl.MaxTime, 9}, {impl.Never, -1}, {math.MaxInt, -1}, {math.MinInt, -1},
	}
	for _, c := range cases {
		checkBestMethod(t, someMethods, c[0], c[1])
	}
	three := someMethods[1:4]
	for _, c := range [][2]int{{0, 1}, {19, 1}, {20, 2}, {40, 2}, {69, 2}, {70, 2}, {79, 2}, {80, -1}, {-1, -1}} {
		checkBestMethod(t, three, c[0], c[1])
	}
	checkBestMethod(t, nil, 0, -1)
	checkBestMethod(t, nil, -1, -1)
}

func TestBestMethodOfEqualEnds(t *testing.T) {
	l := []impl.Method{method(8, 0, 30, 30), method(6, 10, 50, 12), method(4, 0, 50, impl.Never), method(2, 0, 50, 60)}
	checkBestMethod(t, l, 9, 4)
	checkBestMethod(t, l, 10, 6)
	checkBestMethod(t, l, 49, 6)
	checkBestMethod(t, l, 50, -1)
	slices.Reverse(l)
	checkBestMethod(t, l, 9, 2)
	checkBestMethod(t, l, 10, 2)
}

// Methods that are not valid are chosen all the same; their Ends may be negative.
func TestBestMethodOfOddMethods(t *testing.T) {
	for _, c := range [][2]int{{-1000, 11}, {-901, 11}, {-900, -1}, {-51, -1}, {-50, -4}, {-21, -4}, {-20, -1}, {0, 100}, {4, 100}, {5, 7}, {89, 7}, {90, -1}, {450, -1}, {20000, 12}, {40000, 12}} {
		checkBestMethod(t, oddMethods, c[0], c[1])
	}
	checkBestMethod(t, []impl.Method{method(5, -9, 0, 0), method(6, -9, -2, 0)}, -5, 5)
	checkBestMethod(t, []impl.Method{method(6, -9, -2, 0), method(5, -9, 0, 0)}, -5, 5)
	checkBestMethod(t, []impl.Method{method(6, -9, -2, 0), method(5, -9, -3, 0)}, -5, 6)
	checkBestMethod(t, []impl.Method{method(0, -9, -2, 0)}, -5, 0)
}

// bestSlowly returns the first method in use than which no other in use ends later.
func bestSlowly(l []impl.Method, time int) int {
	inUse := slices.DeleteFunc(slices.Clone(l), func(m impl.Method) bool { return time < m.Known || time >= m.Ends })
	for _, m := range inUse {
		if !slices.ContainsFunc(inUse, func(other impl.Method) bool { return other.Ends > m.Ends }) {
			return m.Id
		}
	}
	return -1
}

func TestBestMethodAsDefined(t *testing.T) {
	for _, l := range [][]impl.Method{someMethods, oddMethods, eightMethods()} {
		turned := slices.Clone(l)
		slices.Reverse(turned)
		for _, time := range edgesOf(l) {
			checkBestMethod(t, l, time, bestSlowly(l, time))
			checkBestMethod(t, turned, time, bestSlowly(turned, time))
		}
	}
}

func TestDigestOf(t *testing.T) {
	cases := []struct {
		id   int
		l    []int
		want int
	}{
		{2, nil, 674760240}, {2, []int{}, 674760240}, {3, nil, 674760241}, {0, nil, 674760238}, {-1, nil, 674760237},
		{2, []int{5}, 1427556868}, {2, []int{-5}, 1427556858}, {2, []int{0}, 1427556863},
		{2, []int{1, 2, 3}, 1256157711}, {2, []int{3, 2, 1}, 1960882370}, {99, []int{-1, -2}, 808640407},
	}
	for _, c := range cases {
		if got := impl.DigestOf(c.id, c.l); got != c.want {
			t.Errorf("DigestOf(%d, %v) = %d, want %d", c.id, c.l, got, c.want)
		}
	}
	for _, id := range []int{0, 1, 2, 7, 99, 100, -1, impl.Modulus, math.MaxInt, math.MinInt} {
		for n := range len(someValues) + 1 {
			l := someValues[:n]
			want := hashSlowly(slices.Concat([]int{7, id}, l))
			if got := impl.DigestOf(id, l); got != want {
				t.Errorf("DigestOf(%d, %v) = %d, want %d", id, l, got, want)
			}
		}
	}
}

func TestMethodsLeaveArgumentsAlone(t *testing.T) {
	for _, list := range [][]impl.Method{{}, someMethods, oddMethods, eightMethods()} {
		l := spareMethods(list)
		whole := slices.Clone(l[:cap(l)])
		impl.AreMethods(l)
		for _, time := range edgesOf(list) {
			impl.FindMethod(l, time)
			impl.BreakOf(l, time)
			impl.IsAlive(l, 7, time)
			impl.BestMethod(l, time)
		}
		if !slices.Equal(whole, l[:cap(l)]) {
			t.Errorf("a function of methods writes into %v", list)
		}
	}
	for _, list := range [][]int{{}, {5}, someValues} {
		l := spareInts(list)
		whole := slices.Clone(l[:cap(l)])
		impl.DigestOf(2, l)
		if !slices.Equal(whole, l[:cap(l)]) {
			t.Error("DigestOf writes into its argument")
		}
	}
}
