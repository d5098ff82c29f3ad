package tests

import (
	"math"
	"slices"
	"testing"

	"loop.example/g00597/impl"
)

func left(digest int) impl.Step {
	return impl.Step{Digest: digest, Left: true}
}

func right(digest int) impl.Step {
	return impl.Step{Digest: digest}
}

func pairSlowly(method int, a int, b int) int {
	return hashSlowly([]int{7, method, 1, a, b})
}

// halvesSlowly divides leaves into those of the greatest full tree that is not the whole one, and the rest.
func halvesSlowly(leaves []int) ([]int, []int) {
	half := 1
	for 2*half < len(leaves) {
		half *= 2
	}
	return leaves[:half], leaves[half:]
}

// rootSlowly goes down from the root, and not up level by level. There must be leaves.
func rootSlowly(method int, leaves []int) int {
	if len(leaves) == 1 {
		return leaves[0]
	}
	a, b := halvesSlowly(leaves)
	return pairSlowly(method, rootSlowly(method, a), rootSlowly(method, b))
}

// pathSlowly goes down likewise. There must be a leaf i.
func pathSlowly(method int, leaves []int, i int) []impl.Step {
	if len(leaves) == 1 {
		return []impl.Step{}
	}
	a, b := halvesSlowly(leaves)
	if i < len(a) {
		return append(pathSlowly(method, a, i), right(rootSlowly(method, b)))
	}
	return append(pathSlowly(method, b, i-len(a)), left(rootSlowly(method, a)))
}

func followSlowly(method int, leaf int, path []impl.Step) int {
	for _, s := range path {
		if s.Left {
			leaf = pairSlowly(method, s.Digest, leaf)
		} else {
			leaf = pairSlowly(method, leaf, s.Digest)
		}
	}
	return leaf
}

// leavesOf returns n different digests, from 10 on.
func leavesOf(n int) []int {
	l := []int{}
	for i := range n {
		l = append(l, 10+i)
	}
	return l
}

func checkPath(t *testing.T, method int, leaves []int, i int, want ...impl.Step) {
	t.Helper()
	if got := impl.TreePath(method, leaves, i); !slices.Equal(got, want) {
		t.Errorf("TreePath(%d, %v, %d) = %v, want %v", method, leaves, i, got, want)
	}
}

func TestMaxLeaves(t *testing.T) {
	if impl.MaxLeaves != 16 {
		t.Errorf("MaxLeaves = %d", impl.MaxLeaves)
	}
}

func TestPairDigest(t *testing.T) {
	if got := impl.PairDigest(2, 10, 11); got != impl.Hash([]int{7, 2, 1, 10, 11}) {
		t.Errorf("PairDigest(2, 10, 11) = %d", got)
	}
	for _, method := range []int{0, 1, 2, 99, -1, math.MaxInt} {
		for _, a := range someValues {
			for _, b := range someValues {
				if got, want := impl.PairDigest(method, a, b), pairSlowly(method, a, b); got != want {
					t.Errorf("PairDigest(%d, %d, %d) = %d, want %d", method, a, b, got, want)
				}
			}
		}
	}
}

func TestTreeRoot(t *testing.T) {
	p := func(a int, b int) int { return pairSlowly(3, a, b) }
	four := p(p(10, 11), p(12, 13))
	eight := p(four, p(p(14, 15), p(16, 17)))
	roots := map[int]int{
		1: 10, 2: p(10, 11), 3: p(p(10, 11), 12), 4: four, 5: p(four, 14), 6: p(four, p(14, 15)), 7: p(four, p(p(14, 15), 16)), 8: eight,
		9: p(eight, 18), 10: p(eight, p(18, 19)), 11: p(eight, p(p(18, 19), 20)), 12: p(eight, p(p(18, 19), p(20, 21))),
		13: p(eight, p(p(p(18, 19), p(20, 21)), 22)), 15: p(eight, p(p(p(18, 19), p(20, 21)), p(p(22, 23), 24))), 16: p(eight, p(p(p(18, 19), p(20, 21)), p(p(22, 23), p(24, 25)))),
	}
	for n, want := range roots {
		if got := impl.TreeRoot(3, leavesOf(n)); got != want {
			t.Errorf("TreeRoot of %d leaves = %d, want %d", n, got, want)
		}
	}
	for _, l := range [][]int{nil, {}, leavesOf(17), leavesOf(18), make([]int, 17), make([]int, 32), make([]int, 1000)} {
		if got := impl.TreeRoot(3, l); got != -1 {
			t.Errorf("TreeRoot of %d leaves = %d", len(l), got)
		}
	}
}

func TestTreePath(t *testing.T) {
	p := func(a int, b int) int { return pairSlowly(3, a, b) }
	four := p(p(10, 11), p(12, 13))
	checkPath(t, 3, leavesOf(1), 0)
	checkPath(t, 3, leavesOf(2), 0, right(11))
	checkPath(t, 3, leavesOf(2), 1, left(10))
	checkPath(t, 3, leavesOf(3), 0, right(11), right(12))
	checkPath(t, 3, leavesOf(3), 1, left(10), right(12))
	checkPath(t, 3, leavesOf(3), 2, left(p(10, 11)))
	checkPath(t, 3, leavesOf(5), 0, right(11), right(p(12, 13)), right(14))
	checkPath(t, 3, leavesOf(5), 3, left(12), left(p(10, 11)), right(14))
	checkPath(t, 3, leavesOf(5), 4, left(four))
	// There is no partner on the middle level only.
	checkPath(t, 3, leavesOf(6), 4, right(15), left(four))
	checkPath(t, 3, leavesOf(6), 5, left(14), left(four))
	checkPath(t, 3, leavesOf(6), 2, right(13), left(p(10, 11)), right(p(14, 15)))
	// There is none on the lowest level only.
	checkPath(t, 3, leavesOf(7), 6, left(p(14, 15)), left(four))
	checkPath(t, 3, leavesOf(7), 5, left(14), right(16), left(four))
}

func TestTreePathThatThereIsNot(t *testing.T) {
	for n := range 21 {
		l := leavesOf(n)
		for _, i := range []int{-1, -2, n, n + 1, n + 16, math.MinInt, math.MaxInt, 1 << 32} {
			checkPath(t, 3, l, i)
		}
		if n > 16 {
			for i := range n {
				checkPath(t, 3, l, i)
			}
		}
	}
	checkPath(t, 3, nil, 0)
	checkPath(t, 3, make([]int, 1000), 5)
}

// Each leaf leads to the root, by a path that is no longer than there are levels, and no other digest does.
func TestEachLeafLeadsToTheRoot(t *testing.T) {
	for n := 1; n <= 16; n++ {
		for _, l := range [][]int{leavesOf(n), slices.Repeat([]int{5}, n), make([]int, n), slices.Repeat([]int{-1}, n), slices.Repeat(someValues, 16)[:n]} {
			for _, method := range []int{0, 3, 99, -1} {
				root := rootSlowly(method, l)
				if got := impl.TreeRoot(method, l); got != root {
					t.Errorf("TreeRoot(%d, %v) = %d, want %d", method, l, got, root)
				}
				for i := range l {
					path := impl.TreePath(method, l, i)
					checkPath(t, method, l, i, pathSlowly(method, l, i)...)
					if got := impl.FollowPath(method, l[i], path); got != root || len(path) > impl.LevelsOf(n) {
						t.Errorf("leaf %d of %v leads to %d by %v, and the root is %d", i, l, got, path, root)
					}
					if got := impl.FollowPath(method, l[i]+1, path); got == root {
						t.Errorf("another digest than leaf %d of %v leads to the root", i, l)
					}
				}
			}
		}
	}
}

// A tree has another root if one of its leaves is another. (Two leaves that change places can leave it as it is, because the hash stands only for a real one.)
func TestAnotherLeafMakesAnotherRoot(t *testing.T) {
	for n := 1; n <= 16; n++ {
		root := impl.TreeRoot(3, leavesOf(n))
		for i := range n {
			for _, digest := range []int{0, -1, 9 + i, 11 + i, 110 + i} {
				l := leavesOf(n)
				l[i] = digest
				if impl.TreeRoot(3, l) == root {
					t.Errorf("%v has the root of %v", l, leavesOf(n))
				}
			}
		}
		if n > 1 && (impl.TreeRoot(2, leavesOf(n)) == root || impl.TreeRoot(3, leavesOf(n)[:n-1]) == root) {
			t.Errorf("other trees have the root of %v", leavesOf(n))
		}
	}
}

func TestFollowPath(t *testing.T) {
	paths := [][]impl.Step{
		nil, {}, {right(5)}, {left(5)}, {right(5), left(6)}, {left(5), right(6)}, {left(9), left(9), left(9)}, {right(9), right(9), right(9), right(9), right(9)},
		{left(-1), right(math.MaxInt), left(math.MinInt), right(0)}, slices.Repeat([]impl.Step{left(3), right(4)}, 50),
	}
	for _, path := range paths {
		for _, leaf := range someValues {
			for _, method := range []int{0, 3, -1} {
				if got, want := impl.FollowPath(method, leaf, path), followSlowly(method, leaf, path); got != want {
					t.Errorf("FollowPath(%d, %d, %v) = %d, want %d", method, leaf, path, got, want)
				}
			}
		}
	}
	for _, leaf := range someValues {
		if got := impl.FollowPath(3, leaf, nil); got != leaf {
			t.Errorf("FollowPath(3, %d) without steps = %d", leaf, got)
		}
	}
}

func TestLevelsOf(t *testing.T) {
	levels := []int{0, 0, 1, 2, 2, 3, 3, 3, 3, 4, 4, 4, 4, 4, 4, 4, 4, 0, 0, 0}
	for n, want := range levels {
		if got := impl.LevelsOf(n); got != want {
			t.Errorf("LevelsOf(%d) = %d, want %d", n, got, want)
		}
	}
	for _, n := range []int{-1, -2, -16, 32, 1 << 40, math.MinInt, math.MinInt + 1, math.MaxInt} {
		if got := impl.LevelsOf(n); got != 0 {
			t.Errorf("LevelsOf(%d) = %d", n, got)
		}
	}
}

func TestTreesLeaveArgumentsAlone(t *testing.T) {
	for n := range 18 {
		l := spareInts(leavesOf(n))
		for i := -1; i <= n; i++ {
			checkApart(t, "TreePath", l, -5, left(-7), func() []impl.Step { return impl.TreePath(3, l, i) })
		}
		checkUnchanged(t, "TreeRoot", l, func() { impl.TreeRoot(3, l) })
	}
	path := spareOf([]impl.Step{left(3), right(4)}, left(-7))
	checkUnchanged(t, "FollowPath", path, func() { impl.FollowPath(3, 5, path) }, func() { impl.FollowPath(3, 5, path[:0]) })
}
