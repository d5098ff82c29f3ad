package tests

import (
	"math"
	"slices"
	"testing"

	"loop.example/g00597/impl"
)

// statement is a kind of what is marked with a key of fewKeys: the functions that make and check it, and what the document says of it.
type statement[T comparable] struct {
	name   string
	make   func(keys []impl.Key, x T) (T, bool)
	check  func(keys []impl.Key, x T) bool
	ints   func(x T) []int
	fields []field[T]
	// key and mark are the fields that tell with which key it is marked, and how.
	key  func(x *T) *int
	mark func(x *T) *int
}

// markedBy returns x with the mark of a key, whether or not this is allowed.
func (s statement[T]) markedBy(k impl.Key, x T) T {
	*s.mark(&x) = markSlowly(k, s.ints(x))
	return x
}

// made returns x as it is made with its key.
func (s statement[T]) made(t *testing.T, keys []impl.Key, x T) T {
	t.Helper()
	k, _ := keySlowly(keys, *s.key(&x))
	want := s.markedBy(k, x)
	if got, ok := s.make(keys, x); !ok || got != want {
		t.Errorf("making the %s %v with %v returns %v, %t, want %v", s.name, x, keys, got, ok, want)
	}
	return want
}

func (s statement[T]) checkHolds(t *testing.T, keys []impl.Key, x T, want bool) {
	t.Helper()
	if got := s.check(keys, x); got != want {
		t.Errorf("checking the %s %v with %v returns %t", s.name, x, keys, got)
	}
}

// checkNotMade checks that x cannot be made, and does not hold even if its mark is right.
func (s statement[T]) checkNotMade(t *testing.T, keys []impl.Key, x T) {
	t.Helper()
	var zero T
	if got, ok := s.make(keys, x); ok || got != zero {
		t.Errorf("making the %s %v with %v returns %v, %t", s.name, x, keys, got, ok)
	}
	s.checkHolds(t, keys, x, false)
	if k, i := keySlowly(keys, *s.key(&x)); i >= 0 {
		s.checkHolds(t, keys, s.markedBy(k, x), false)
	}
}

// checkAnyOldMark checks that it makes no difference which mark there was before.
func (s statement[T]) checkAnyOldMark(t *testing.T, list []T) {
	t.Helper()
	for _, x := range list {
		mark := *s.mark(&x)
		for _, old := range []int{mark, 0, -1, 5, math.MinInt, math.MaxInt} {
			*s.mark(&x) = old
			s.checkHolds(t, fewKeys, s.made(t, fewKeys, x), true)
		}
	}
}

// checkRanges checks that those are not made of which a field is out of its range, nor those of which the key is not there.
func (s statement[T]) checkRanges(t *testing.T, list []T) {
	t.Helper()
	var zero T
	s.checkNotMade(t, fewKeys, zero)
	for _, x := range list {
		for _, f := range s.fields {
			if f.name == "Mark" {
				continue
			}
			for _, n := range []int{f.low - 1, f.high + 1, math.MinInt, math.MaxInt} {
				s.checkNotMade(t, fewKeys, f.with(x, n))
			}
		}
		s.checkNotMade(t, nil, x)
		for _, number := range []int{3, 15, 99} {
			*s.key(&x) = number
			s.checkNotMade(t, fewKeys, x)
		}
		// The key is there, but its number is not valid.
		for _, number := range []int{0, 100, -7} {
			*s.key(&x) = number
			s.checkNotMade(t, append(slices.Clone(fewKeys), key(number, 1, 1, 0, 5)), x)
		}
	}
}

// checkMarks checks that those that are made hold, but no longer if a field is changed, or they are marked with another key.
func (s statement[T]) checkMarks(t *testing.T, list []T) {
	t.Helper()
	for _, x := range list {
		checkChanges(t, s.made(t, fewKeys, x), func(y T) bool { return s.check(fewKeys, y) }, s.fields)
		for _, k := range fewKeys {
			s.checkHolds(t, fewKeys, s.markedBy(k, x), k.Number == *s.key(&x))
		}
	}
}

// checkInts checks that what is marked is as the document says, and in memory of its own.
func (s statement[T]) checkInts(t *testing.T, ints func(T) []int, list []T) {
	t.Helper()
	for _, x := range list {
		first, second := ints(x), ints(x)
		fill(first, -9)
		if !slices.Equal(second, s.ints(x)) || !slices.Equal(ints(x), s.ints(x)) {
			t.Errorf("what is marked in the %s %v is %v", s.name, x, second)
		}
	}
}
