package tests

import (
	"math"
	"testing"

	"loop.example/g00597/impl"
)

func TestEqualInts(t *testing.T) {
	cases := []struct {
		a, b []int
		want bool
	}{
		{nil, nil, true},
		{nil, []int{}, true},
		{[]int{}, []int{}, true},
		{[]int{0}, nil, false},
		{[]int{5, 300}, []int{5, 300}, true},
		{[]int{5, 300}, []int{5, 301}, false},
		{[]int{5, 300}, []int{4, 300}, false},
		{[]int{5, 300}, []int{300, 5}, false},
		{[]int{5, 300}, []int{5}, false},
		{[]int{5, 300}, []int{300}, false},
		{[]int{1, 0}, []int{1}, false},
		{[]int{-1}, []int{1}, false},
		{[]int{256}, []int{0}, false},
		{[]int{1 << 32}, []int{0}, false},
		{[]int{math.MinInt, math.MaxInt}, []int{math.MinInt, math.MaxInt}, true},
		{[]int{math.MinInt}, []int{math.MaxInt}, false},
	}
	for _, c := range cases {
		if got := impl.EqualInts(c.a, c.b); got != c.want {
			t.Errorf("EqualInts(%v, %v) = %t", c.a, c.b, got)
		}
		if got := impl.EqualInts(c.b, c.a); got != c.want {
			t.Errorf("EqualInts(%v, %v) = %t", c.b, c.a, got)
		}
	}
}
