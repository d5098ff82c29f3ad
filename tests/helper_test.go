package tests

import (
	"slices"
	"testing"

	"loop.example/g00597/impl"
)

// spareOf returns l with room behind it, which holds a pattern.
func spareOf[E any](l []E, pattern E) []E {
	s := append(slices.Clone(l), slices.Repeat([]E{pattern}, 64)...)
	return s[:len(l)]
}

func spare(b []byte) []byte {
	return spareOf(b, 0xEE)
}

func spareInts(l []int) []int {
	return spareOf(l, -77)
}

func spareSpans(l []impl.Span) []impl.Span {
	return spareOf(l, impl.Span{From: -77, To: 77})
}

// fill overwrites all memory of s, also what is behind its end.
func fill[E any](s []E, e E) {
	for i := range s[:cap(s)] {
		s[:cap(s)][i] = e
	}
}

// checkApart checks that arg, up to its capacity, keeps its content during call and while call's result is overwritten, and that the result does not change with arg.
func checkApart[A, R comparable](t *testing.T, name string, arg []A, a A, r R, call func() []R) {
	t.Helper()
	before := slices.Clone(arg[:cap(arg)])
	first, second := call(), call()
	if !slices.Equal(before, arg[:cap(arg)]) {
		t.Errorf("%s writes into its argument", name)
	}
	want := slices.Clone(second)
	fill(first, r)
	if !slices.Equal(before, arg[:cap(arg)]) {
		t.Errorf("the result of %s shares memory with its argument", name)
	}
	if !slices.Equal(second, want) {
		t.Errorf("two results of %s share memory", name)
	}
	fill(arg, a)
	if !slices.Equal(second, want) {
		t.Errorf("the result of %s changes with its argument", name)
	}
	copy(arg[:cap(arg)], before)
}
