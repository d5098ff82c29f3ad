package tests

import (
	"math"
	"slices"
	"testing"

	"loop.example/g00597/impl"
)

// spareOf returns l with room behind it, which holds a pattern.
func spareOf[E any](l []E, pattern E) []E {
	s := append(slices.Clone(l), slices.Repeat([]E{pattern}, 64)...)
	return s[:len(l)]
}

func spare(b []byte) []byte {
	return spareOf(b, 0xEE)
}

func spareInts(l []int) []int {
	return spareOf(l, -77)
}

func spareSpans(l []impl.Span) []impl.Span {
	return spareOf(l, impl.Span{From: -77, To: 77})
}

// fill overwrites all memory of s, also what is behind its end.
func fill[E any](s []E, e E) {
	for i := range s[:cap(s)] {
		s[:cap(s)][i] = e
	}
}

// checkApart checks that arg, up to its capacity, keeps its content during call and while call's result is overwritten, and that the result does not change with arg.
func checkApart[A, R comparable](t *testing.T, name string, arg []A, a A, r R, call func() []R) {
	t.Helper()
	before := slices.Clone(arg[:cap(arg)])
	first, second := call(), call()
	if !slices.Equal(before, arg[:cap(arg)]) {
		t.Errorf("%s writes into its argument", name)
	}
	want := slices.Clone(second)
	fill(first, r)
	if !slices.Equal(before, arg[:cap(arg)]) {
		t.Errorf("the result of %s shares memory with its argument", name)
	}
	if !slices.Equal(second, want) {
		t.Errorf("two results of %s share memory", name)
	}
	fill(arg, a)
	if !slices.Equal(second, want) {
		t.Errorf("the result of %s changes with its argument", name)
	}
	copy(arg[:cap(arg)], before)
}

// field is a number in a T, with the first and the last value that it can have in a valid one.
type field[T any] struct {
	name string
	of   func(x *T) *int
	low  int
	high int
}

// with returns x with another value of the field.
func (f field[T]) with(x T, n int) T {
	*f.of(&x) = n
	return x
}

// checkFields checks that each field alone can have all values of its range, and no other ones.
func checkFields[T any](t *testing.T, valid T, isValid func(T) bool, fields []field[T]) {
	t.Helper()
	for _, f := range fields {
		for _, n := range []int{f.low, min(f.low+1, f.high), (f.low + f.high) / 2, max(f.high-1, f.low), f.high} {
			if x := f.with(valid, n); !isValid(x) {
				t.Errorf("%s %d: %v is not valid", f.name, n, x)
			}
		}
		for _, n := range []int{f.low - 1, f.low - 2, f.high + 1, f.high + 2, math.MinInt, math.MaxInt} {
			if x := f.with(valid, n); isValid(x) {
				t.Errorf("%s %d: %v is valid", f.name, n, x)
			}
		}
	}
}

// checkChanges checks that x holds, but no longer if any of the fields is one off, has another sign, or is that of another field.
// Marks are the same for numbers with the same remainder by Modulus, but must themselves be right to the number.
func checkChanges[T comparable](t *testing.T, x T, holds func(T) bool, fields []field[T]) {
	t.Helper()
	if !holds(x) {
		t.Errorf("%v does not hold", x)
	}
	for _, f := range fields {
		n := *f.of(&x)
		others := []int{n + 1, n - 1, -n, n + 100, n + impl.Modulus, n - impl.Modulus, 0, math.MinInt, math.MaxInt}
		for _, g := range fields {
			others = append(others, *g.of(&x))
		}
		for _, other := range others {
			if other == n || f.name != "Mark" && impl.Mod(other, impl.Modulus) == impl.Mod(n, impl.Modulus) {
				continue
			}
			if y := f.with(x, other); holds(y) {
				t.Errorf("%v holds as %v does, although its %s is another", y, x, f.name)
			}
		}
	}
}

// checkUnchanged checks that no call writes into the memory of l, also behind its end.
func checkUnchanged[E comparable](t *testing.T, name string, l []E, calls ...func()) {
	t.Helper()
	before := slices.Clone(l[:cap(l)])
	for i, call := range calls {
		call()
		if !slices.Equal(before, l[:cap(l)]) {
			t.Fatalf("call %d of %s writes into its argument", i, name)
		}
	}
}
