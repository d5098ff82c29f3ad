package tests

import (
	"reflect"
	"testing"
)

// spareRoom is how much room there is behind the end of each list of an argument.
const spareRoom = 3

// same compares in depth without the program's help; a nil list equals an empty one.
func same[T any](a T, b T) bool {
	return sameValues(reflect.ValueOf(a), reflect.ValueOf(b))
}

func sameValues(a reflect.Value, b reflect.Value) bool {
	switch a.Kind() {
	case reflect.Struct:
		for i := range a.NumField() {
			if !sameValues(a.Field(i), b.Field(i)) {
				return false
			}
		}
		return true
	case reflect.Slice:
		if a.Len() != b.Len() {
			return false
		}
		for i := range a.Len() {
			if !sameValues(a.Index(i), b.Index(i)) {
				return false
			}
		}
		return true
	default:
		return a.Equal(b)
	}
}

// clone returns a copy in depth.
func clone[T any](x T) T {
	return copyDeep(reflect.ValueOf(x), func(l reflect.Value) (int, int) { return l.Len(), 0 }).Interface().(T)
}

// spared returns a copy in depth that has room behind the ends of all lists.
func spared[T any](x T) T {
	return copyDeep(reflect.ValueOf(x), func(l reflect.Value) (int, int) { return l.Len(), spareRoom }).Interface().(T)
}

// whole returns a copy in depth in which all lists reach to the end of their room.
func whole[T any](x T) T {
	return copyDeep(reflect.ValueOf(x), func(l reflect.Value) (int, int) { return l.Cap(), 0 }).Interface().(T)
}

// copyDeep copies so many elements of each list as extent tells, and makes so much room behind them.
func copyDeep(v reflect.Value, extent func(reflect.Value) (int, int)) reflect.Value {
	c := reflect.New(v.Type()).Elem()
	switch v.Kind() {
	case reflect.Struct:
		for i := range v.NumField() {
			c.Field(i).Set(copyDeep(v.Field(i), extent))
		}
	case reflect.Slice:
		n, room := extent(v)
		if v.IsNil() && room == 0 {
			return c
		}
		c.Set(reflect.MakeSlice(v.Type(), n+room, n+room))
		for i := range n {
			c.Index(i).Set(copyDeep(v.Slice(0, n).Index(i), extent))
		}
		c.Set(c.Slice(0, n))
	default:
		c.Set(v)
	}
	return c
}

// wipe changes all memory that the lists of x reach, also what is behind their ends.
func wipe[T any](x T) {
	v := reflect.New(reflect.TypeOf(x)).Elem()
	v.Set(reflect.ValueOf(x))
	wipeDeep(v)
}

func wipeDeep(v reflect.Value) {
	switch v.Kind() {
	case reflect.Struct:
		for i := range v.NumField() {
			wipeDeep(v.Field(i))
		}
	case reflect.Slice:
		for i := range v.Cap() {
			wipeDeep(v.Slice(0, v.Cap()).Index(i))
		}
		v.SetZero()
	case reflect.Int:
		v.SetInt(^v.Int())
	case reflect.Bool:
		v.SetBool(!v.Bool())
	case reflect.String:
		v.SetString(v.String() + "!")
	default:
		panic("wipe of a " + v.Kind().String())
	}
}

// places returns the first byte and the one behind the last one of the memory of each list.
func places(v reflect.Value) [][2]uintptr {
	found := [][2]uintptr{}
	switch v.Kind() {
	case reflect.Struct:
		for i := range v.NumField() {
			found = append(found, places(v.Field(i))...)
		}
	case reflect.Slice:
		if v.Cap() > 0 {
			found = append(found, [2]uintptr{v.Pointer(), v.Pointer() + uintptr(v.Cap())*v.Type().Elem().Size()})
		}
		for i := range v.Len() {
			found = append(found, places(v.Index(i))...)
		}
	}
	return found
}

// checkApartInside checks that no two lists of x share memory.
func checkApartInside[T any](t *testing.T, name string, x T) {
	t.Helper()
	all := places(reflect.ValueOf(x))
	for i, a := range all {
		for _, b := range all[:i] {
			if a[0] < b[1] && b[0] < a[1] {
				t.Fatalf("two lists of a result of %s share memory", name)
			}
		}
	}
}

// checkMemory checks that call does not write into its argument, also not behind the ends of its lists, and returns memory of its own.
// Several arguments or results are the fields of a struct.
func checkMemory[A, R any](t *testing.T, name string, x A, call func(x A) R) {
	t.Helper()
	arg := spared(x)
	before := whole(arg)
	first, second := call(arg), call(arg)
	if !same(before, whole(arg)) {
		t.Fatalf("%s writes into its argument", name)
	}
	checkApartInside(t, name, second)
	want := whole(second)
	wipe(first)
	if !same(before, whole(arg)) {
		t.Errorf("a result of %s shares memory with its argument", name)
	}
	if !same(want, whole(second)) {
		t.Errorf("two results of %s share memory", name)
	}
	wipe(arg)
	if !same(want, whole(second)) {
		t.Errorf("a result of %s changes with its argument", name)
	}
}
