package tests

import (
	"math"
	"slices"
	"testing"

	"loop.example/g00597/impl"
)

func key(number int, owner int, method int, born int, secret int) impl.Key {
	return impl.Key{Number: number, Owner: owner, Method: method, Born: born, Secret: secret}
}

// fewKeys: 1 and 2 issue certificates for the owner 90; 11 to 14 are of the persons 1 and 2; 31 to 33 are of authorities.
var fewKeys = []impl.Key{
	key(1, 90, 1, 0, 501), key(2, 90, 3, 40, 502),
	key(11, 1, 1, 0, 511), key(12, 1, 2, 20, 512), key(13, 2, 3, 40, 513), key(14, 2, 1, 0, 514),
	key(31, 81, 1, 0, 531), key(32, 82, 2, 20, 532), key(33, 83, 3, 40, 533),
}

// oddKeys are out of order, partly not valid, and some have the same Number or the same Secret.
var oddKeys = []impl.Key{
	key(11, 5, 1, 0, 9), key(4, 5, 2, 0, 9), key(11, 6, 3, 0, 8), key(4, 6, 2, 0, 7),
	key(0, 7, 0, 0, 9), key(-3, -1, -2, -7, -5), key(100, 100, 100, 20000, 0), key(1, -1, 1, 0, impl.Modulus),
	key(2, 5, 2, 0, 9), key(math.MaxInt, 5, math.MinInt, 0, math.MaxInt), key(math.MinInt, math.MinInt, 0, 0, math.MinInt), key(4, 5, 1, 0, 9),
}

// someTexts are what can be marked: nothing, one number, several, and numbers that are negative or large.
var someTexts = [][]int{nil, {}, {0}, {5}, {3, 4}, {4, 3}, {3, 4, 0}, {0, 3, 4}, {-1, -2}, {1, 3, 4}, {impl.MaxValue, math.MaxInt, math.MinInt}, someValues}

// markSlowly tells by the definition alone what MarkWith returns.
func markSlowly(k impl.Key, l []int) int {
	return keyedHashSlowly(k.Secret, slices.Concat([]int{k.Method}, l))
}

// keySlowly returns the first key with a Number, and its index.
func keySlowly(l []impl.Key, number int) (impl.Key, int) {
	for i := range l {
		if l[i].Number == number {
			return l[i], i
		}
	}
	return impl.Key{}, -1
}

func spareKeys(l []impl.Key) []impl.Key {
	return spareOf(l, key(11, 1, 1, 0, 77))
}

// twelveKeys returns the greatest list of keys that is valid.
func twelveKeys() []impl.Key {
	l := []impl.Key{}
	for i := range impl.MaxKeys {
		l = append(l, key(8*i, 99-i, i%3, 100*i, 40+i%5))
	}
	l[0].Number = 1
	return l
}

func TestMaxKeys(t *testing.T) {
	if impl.MaxKeys != 12 {
		t.Errorf("MaxKeys = %d", impl.MaxKeys)
	}
}

func TestIsKey(t *testing.T) {
	fields := []field[impl.Key]{
		{"Number", func(k *impl.Key) *int { return &k.Number }, 1, 99},
		{"Owner", func(k *impl.Key) *int { return &k.Owner }, 0, 99},
		{"Method", func(k *impl.Key) *int { return &k.Method }, 0, 99},
		{"Born", func(k *impl.Key) *int { return &k.Born }, 0, impl.MaxTime},
		{"Secret", func(k *impl.Key) *int { return &k.Secret }, 1, impl.Modulus - 1},
	}
	valid := append(slices.Clone(fewKeys), key(1, 0, 0, 0, 1), key(99, 99, 99, impl.MaxTime, impl.Modulus-1))
	for _, k := range valid {
		checkFields(t, k, impl.IsKey, fields)
	}
	for _, k := range []impl.Key{{}, oddKeys[4], oddKeys[5], oddKeys[6], oddKeys[7], oddKeys[9], oddKeys[10]} {
		if impl.IsKey(k) {
			t.Errorf("IsKey(%v) = true", k)
		}
	}
}

func checkAreKeys(t *testing.T, l []impl.Key, want bool) {
	t.Helper()
	if got := impl.AreKeys(l); got != want {
		t.Errorf("AreKeys(%v) = %t", l, got)
	}
}

func TestAreKeys(t *testing.T) {
	twelve := twelveKeys()
	for _, l := range [][]impl.Key{nil, {}, fewKeys, twelve, twelve[5:], {key(1, 0, 0, 0, 1)}, {key(99, 0, 0, 0, 1)}} {
		checkAreKeys(t, l, true)
	}
	thirteen := append(slices.Clone(twelve), key(99, 0, 0, 0, 1))
	checkAreKeys(t, thirteen, false)
	checkAreKeys(t, thirteen[1:], true)
	checkAreKeys(t, oddKeys, false)
	checkAreKeys(t, oddKeys[:2], false)
	checkAreKeys(t, []impl.Key{{}}, false)
}

func TestAreKeysOfEachPlace(t *testing.T) {
	for i := range impl.MaxKeys {
		for _, secret := range []int{0, -1, impl.Modulus} {
			l := twelveKeys()
			l[i].Secret = secret
			checkAreKeys(t, l, false)
		}
		if i == 0 {
			continue
		}
		for _, step := range []int{-1, 0, 1} {
			l := twelveKeys()
			l[i].Number = l[i-1].Number + step
			checkAreKeys(t, l, step == 1)
		}
		// Only the Numbers have to differ.
		l := twelveKeys()
		l[i].Owner, l[i].Method, l[i].Born, l[i].Secret = l[i-1].Owner, l[i-1].Method, l[i-1].Born, l[i-1].Secret
		checkAreKeys(t, l, true)
	}
}

func TestFindKeyAndOwnerOf(t *testing.T) {
	cases := []struct {
		l            []impl.Key
		number       int
		index, owner int
	}{
		{nil, 0, -1, -1}, {nil, 1, -1, -1}, {nil, -1, -1, -1}, {[]impl.Key{}, 11, -1, -1},
		{fewKeys, 1, 0, 90}, {fewKeys, 2, 1, 90}, {fewKeys, 11, 2, 1}, {fewKeys, 12, 3, 1}, {fewKeys, 14, 5, 2}, {fewKeys, 33, 8, 83},
		{fewKeys, 0, -1, -1}, {fewKeys, 3, -1, -1}, {fewKeys, 34, -1, -1}, {fewKeys, -1, -1, -1}, {fewKeys, -11, -1, -1},
		{fewKeys, 90, -1, -1}, {fewKeys, 11 + 1<<32, -1, -1}, {fewKeys, math.MinInt, -1, -1}, {fewKeys, math.MaxInt, -1, -1},
		// Of equal Numbers the first one counts, and the key need not be valid.
		{oddKeys, 11, 0, 5}, {oddKeys[1:], 11, 1, 6}, {oddKeys, 4, 1, 5}, {oddKeys[2:], 4, 1, 6}, {oddKeys[4:], 4, 7, 5},
		{oddKeys, 0, 4, 7}, {oddKeys, -3, 5, -1}, {oddKeys, 100, 6, 100}, {oddKeys, 1, 7, -1}, {oddKeys, -1, -1, -1},
		{oddKeys, math.MaxInt, 9, 5}, {oddKeys, math.MinInt, 10, math.MinInt},
		{slices.Repeat([]impl.Key{key(4, 3, 2, 1, 1)}, 20), 4, 0, 3},
	}
	for _, c := range cases {
		if got := impl.FindKey(c.l, c.number); got != c.index {
			t.Errorf("FindKey(%v, %d) = %d, want %d", c.l, c.number, got, c.index)
		}
		if got := impl.OwnerOf(c.l, c.number); got != c.owner {
			t.Errorf("OwnerOf(%v, %d) = %d, want %d", c.l, c.number, got, c.owner)
		}
	}
}

func TestKeysOf(t *testing.T) {
	cases := []struct {
		l     []impl.Key
		owner int
		want  []int
	}{
		{nil, 0, nil}, {nil, -1, nil}, {[]impl.Key{}, 5, nil}, {[]impl.Key{{}}, 0, []int{0}},
		{fewKeys, 90, []int{1, 2}}, {fewKeys, 1, []int{11, 12}}, {fewKeys, 2, []int{13, 14}}, {fewKeys, 83, []int{33}},
		{fewKeys, 0, nil}, {fewKeys, -1, nil}, {fewKeys, 3, nil}, {fewKeys, 11, nil}, {fewKeys, 1 + 1<<32, nil},
		// They are in the order of the list, and not each once.
		{oddKeys, 5, []int{11, 4, 2, math.MaxInt, 4}}, {oddKeys, 6, []int{11, 4}}, {oddKeys, -1, []int{-3, 1}}, {oddKeys, 7, []int{0}},
		{oddKeys, math.MinInt, []int{math.MinInt}}, {oddKeys, 8, nil},
		{slices.Repeat([]impl.Key{key(4, 3, 2, 1, 1)}, 5), 3, []int{4, 4, 4, 4, 4}},
		{[]impl.Key{key(9, 3, 0, 0, 1), key(8, 3, 0, 0, 1), key(1, 3, 0, 0, 1)}, 3, []int{9, 8, 1}},
	}
	for _, c := range cases {
		if got := impl.KeysOf(c.l, c.owner); !slices.Equal(got, c.want) {
			t.Errorf("KeysOf(%v, %d) = %v, want %v", c.l, c.owner, got, c.want)
		}
	}
}

func TestMarkWith(t *testing.T) {
	cases := []struct {
		k    impl.Key
		l    []int
		want int
	}{
		{key(1, 5, 2, 3, 9), []int{3, 4}, 877048802}, {key(7, 0, 2, 0, 9), []int{3, 4}, 877048802},
		{key(1, 5, 2, 3, 9), nil, 2132281533}, {key(1, 5, 2, 3, 9), []int{}, 2132281533},
		{key(1, 5, 0, 3, 8), []int{-1, -2}, 52876377},
		{key(1, 5, 99, 3, impl.Modulus-1), []int{impl.MaxValue}, 2094952363},
		{key(11, 1, 1, 0, 511), []int{0}, 1336021268},
	}
	for _, c := range cases {
		if got := impl.MarkWith(c.k, c.l); got != c.want {
			t.Errorf("MarkWith(%v, %v) = %d, want %d", c.k, c.l, got, c.want)
		}
	}
	for _, k := range slices.Concat(fewKeys, oddKeys) {
		for _, l := range someTexts {
			if got := impl.MarkWith(k, l); got != markSlowly(k, l) {
				t.Errorf("MarkWith(%v, %v) = %d, want %d", k, l, got, markSlowly(k, l))
			}
		}
	}
}

// Another Secret or another Method gives another mark; the rest of the key makes no difference.
func TestMarkWithDependsOnSecretAndMethod(t *testing.T) {
	for _, k := range fewKeys {
		for _, l := range someTexts {
			mark := impl.MarkWith(k, l)
			secret, method, rest := k, k, k
			secret.Secret++
			method.Method++
			rest.Number, rest.Owner, rest.Born = 0, -1, 20000
			if impl.MarkWith(secret, l) == mark || impl.MarkWith(method, l) == mark {
				t.Errorf("MarkWith(%v, %v) does not depend on the Secret and the Method", k, l)
			}
			if impl.MarkWith(rest, l) != mark {
				t.Errorf("MarkWith(%v, %v) depends on more than the Secret and the Method", k, l)
			}
		}
	}
}

func checkCheckMark(t *testing.T, l []impl.Key, number int, what []int, mark int, want bool) {
	t.Helper()
	if got := impl.CheckMark(l, number, what, mark); got != want {
		t.Errorf("CheckMark(%v, %d, %v, %d) = %t", l, number, what, mark, got)
	}
}

func TestCheckMark(t *testing.T) {
	checkCheckMark(t, []impl.Key{key(1, 5, 2, 3, 9)}, 1, []int{3, 4}, 877048802, true)
	checkCheckMark(t, []impl.Key{key(1, 5, 2, 3, 9)}, 1, nil, 2132281533, true)
	checkCheckMark(t, []impl.Key{key(1, 5, 2, 3, 9)}, 1, []int{}, 2132281533, true)
	for _, l := range [][]impl.Key{fewKeys, oddKeys, twelveKeys()} {
		for i, k := range l {
			for j, text := range someTexts {
				mark := markSlowly(k, text)
				_, first := keySlowly(l, k.Number)
				checkCheckMark(t, l, k.Number, text, mark, first == i || markSlowly(l[first], text) == mark)
				if first != i {
					continue
				}
				for _, off := range []int{1, -1, impl.Modulus, -impl.Modulus, 1 << 32, math.MinInt} {
					checkCheckMark(t, l, k.Number, text, mark+off, false)
				}
				for n, other := range someTexts {
					checkCheckMark(t, l, k.Number, other, mark, n == j || slices.Equal(other, text))
				}
				for _, other := range l {
					of, _ := keySlowly(l, other.Number)
					checkCheckMark(t, l, other.Number, text, mark, of.Secret == k.Secret && of.Method == k.Method)
				}
			}
		}
	}
}

// Nobody has the number, so that no mark is right, not even 0.
func TestCheckMarkWithoutKey(t *testing.T) {
	for _, number := range []int{0, -1, 3, 15, 99, 11 + 1<<32, math.MinInt, math.MaxInt} {
		for _, text := range someTexts {
			for _, k := range append(slices.Clone(fewKeys), impl.Key{}) {
				checkCheckMark(t, fewKeys, number, text, markSlowly(k, text), false)
				checkCheckMark(t, nil, number, text, markSlowly(k, text), false)
			}
			checkCheckMark(t, fewKeys, number, text, 0, false)
			checkCheckMark(t, nil, number, text, 0, false)
			checkCheckMark(t, nil, number, text, -1, false)
		}
	}
}

// There is one Secret by which a mark is 0. It is right all the same.
func TestMarkThatIsZero(t *testing.T) {
	l := []impl.Key{key(5, 1, 1, 0, 1459038489), key(6, 1, 1, 0, 173800742)}
	for number, want := range map[int]int{5: 0, 6: 1} {
		k, _ := keySlowly(l, number)
		if got := impl.MarkWith(k, []int{3, 4}); got != want {
			t.Errorf("MarkWith(%v, {3, 4}) = %d, want %d", k, got, want)
		}
		checkCheckMark(t, l, number, []int{3, 4}, want, true)
		checkCheckMark(t, l, number, []int{3, 4}, 1-want, false)
	}
	checkCheckMark(t, l, 7, []int{3, 4}, 0, false)
}

// Of keys with equal Numbers the first one alone makes marks that check.
func TestMarksOfEqualNumbers(t *testing.T) {
	a, b := key(4, 1, 1, 0, 70), key(4, 1, 1, 0, 71)
	for _, text := range someTexts {
		checkCheckMark(t, []impl.Key{a, b}, 4, text, markSlowly(a, text), true)
		checkCheckMark(t, []impl.Key{a, b}, 4, text, markSlowly(b, text), false)
		checkCheckMark(t, []impl.Key{b, a}, 4, text, markSlowly(a, text), false)
		checkCheckMark(t, []impl.Key{b, a}, 4, text, markSlowly(b, text), true)
	}
}

func TestKeysLeaveArgumentsAlone(t *testing.T) {
	for _, list := range [][]impl.Key{{}, fewKeys, oddKeys, twelveKeys()} {
		l := spareKeys(list)
		for _, text := range someTexts {
			what := spareInts(text)
			calls := []func(){
				func() { impl.AreKeys(l) },
				func() { impl.FindKey(l, 11) },
				func() { impl.OwnerOf(l, 11) },
				func() { impl.CheckMark(l, 11, what, 0) },
				func() { impl.MarkWith(key(1, 5, 2, 3, 9), what) },
			}
			checkUnchanged(t, "keys", l, calls...)
			checkUnchanged(t, "marks", what, calls...)
		}
		for _, owner := range []int{-1, 1, 5, 90, 100} {
			checkApart(t, "KeysOf", l, key(9, owner, 1, 0, 1), -9, func() []int { return impl.KeysOf(l, owner) })
		}
	}
}
