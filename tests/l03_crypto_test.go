package tests

import (
	"bytes"
	"math"
	"math/big"
	"slices"
	"strings"
	"testing"

	"loop.example/g00597/impl"
)

var someKeys = []int{0, 1, 2, 77, impl.Modulus - 1, impl.Modulus, impl.Modulus + 1, -1, -impl.Modulus, math.MaxInt, math.MinInt}

// someValues are hash values at the edges, no two of which have the same remainder.
var someValues = []int{0, 1, 2, 300, impl.Modulus - 1, impl.Modulus - 2, impl.Modulus + 40, -50, -impl.Modulus - 70, 1 << 40, -1 << 50, -2000000000}

// hashSlowly tells by the definition alone, in integers without bounds, what Hash returns.
func hashSlowly(values []int) int {
	modulus := big.NewInt(impl.Modulus)
	sum := big.NewInt(11)
	for _, v := range values {
		// Mod of big.Int is never negative.
		rest := new(big.Int).Mod(big.NewInt(int64(v)), modulus)
		sum.Mul(sum, big.NewInt(1000003))
		sum.Add(sum, rest)
		sum.Add(sum, big.NewInt(13))
		sum.Mod(sum, modulus)
	}
	return int(sum.Int64())
}

func keyedHashSlowly(key int, values []int) int {
	return hashSlowly(slices.Concat([]int{key}, values, []int{key}))
}

func checkHash(t *testing.T, values []int, want int) {
	t.Helper()
	if got := impl.Hash(values); got != want {
		t.Errorf("Hash(%v) = %d, want %d", values, got, want)
	}
}

func checkKeyedHash(t *testing.T, key int, values []int, want int) {
	t.Helper()
	if got := impl.KeyedHash(key, values); got != want {
		t.Errorf("KeyedHash(%d, %v) = %d, want %d", key, values, got, want)
	}
}

func TestModulus(t *testing.T) {
	if impl.Modulus != 2147483647 {
		t.Errorf("Modulus = %d", impl.Modulus)
	}
}

func TestHash(t *testing.T) {
	checkHash(t, nil, 11)
	checkHash(t, []int{}, 11)
	checkHash(t, []int{0}, 11000046)
	checkHash(t, []int{5}, 11000051)
	checkHash(t, []int{0, 0}, 667760217)
	checkHash(t, []int{5, 6}, 672760238)
	checkHash(t, []int{6, 5}, 673760240)
	checkHash(t, []int{1, 2, 3}, 1460866530)
}

func TestHashOfNegativeAndLargeValues(t *testing.T) {
	const m = impl.Modulus
	checkHash(t, []int{-1}, 11000045)
	checkHash(t, []int{m - 1}, 11000045)
	checkHash(t, []int{m}, 11000046)
	checkHash(t, []int{-m}, 11000046)
	checkHash(t, []int{m + 5}, 11000051)
	checkHash(t, []int{-m - 1}, 11000045)
	checkHash(t, []int{math.MaxInt}, 11000047)
	checkHash(t, []int{math.MinInt}, 11000044)
	checkHash(t, []int{math.MinInt + 1}, 11000045)
	// The sum with a value that is not reduced would be just above 0, 0, or below it.
	checkHash(t, []int{-11000045}, 1)
	checkHash(t, []int{-11000046}, 0)
	checkHash(t, []int{-11000047}, m-1)
	checkHash(t, []int{-2000000000}, 158483693)
	checkHash(t, []int{-m + 1}, 11000047)
	checkHash(t, []int{-1, -2, -3}, 752141851)
	checkHash(t, []int{math.MaxInt, math.MinInt, 0}, 1456866515)
}

func TestHashAsDefined(t *testing.T) {
	check := func(values []int) {
		t.Helper()
		got := impl.Hash(values)
		if got != hashSlowly(values) {
			t.Errorf("Hash(%v) = %d, want %d", values, got, hashSlowly(values))
		}
		if got < 0 || got >= impl.Modulus {
			t.Errorf("Hash(%v) = %d is out of range", values, got)
		}
	}
	edges := slices.Concat(someValues, someKeys, unencodable)
	for _, a := range edges {
		for _, b := range edges {
			check([]int{a, b})
			check([]int{b, 7, a, a})
		}
	}
	check(edges)
	for size := range 300 {
		check(slices.Repeat([]int{-size}, size))
	}
}

func TestKeyedHash(t *testing.T) {
	checkKeyedHash(t, 0, nil, 667760217)
	checkKeyedHash(t, 1, nil, 668760221)
	checkKeyedHash(t, 1, []int{}, 668760221)
	checkKeyedHash(t, 3, []int{4}, 20107550)
	checkKeyedHash(t, 77, []int{0}, 321116305)
	checkKeyedHash(t, 77, []int{1}, 322116308)
	checkKeyedHash(t, impl.Modulus-1, nil, 666760213)
	checkKeyedHash(t, -1, nil, 666760213)
	checkKeyedHash(t, impl.Modulus, nil, 667760217)
	checkKeyedHash(t, impl.Modulus+1, []int{7}, 1465866543)
	checkKeyedHash(t, math.MaxInt, []int{1}, 1459866525)
	checkKeyedHash(t, math.MinInt, []int{1}, 1476521354)
	for _, key := range someKeys {
		for n := range len(someValues) + 1 {
			checkKeyedHash(t, key, someValues[:n], keyedHashSlowly(key, someValues[:n]))
		}
	}
}

// Another value at any one place, another key, another order and another number of values give another keyed hash.
func TestKeyedHashDependsOnEachValue(t *testing.T) {
	for _, key := range someKeys {
		whole := impl.KeyedHash(key, someValues)
		for i, v := range someValues {
			for _, other := range []int{v + 1, v - 1, v + 256, v + 1<<31, -v - 1} {
				changed := slices.Clone(someValues)
				changed[i] = other
				if impl.KeyedHash(key, changed) == whole {
					t.Errorf("KeyedHash(%d, ...) is the same with %d and with %d at place %d", key, v, other, i)
				}
			}
			if impl.KeyedHash(key, someValues[:i]) == whole {
				t.Errorf("KeyedHash(%d, ...) is the same with the first %d values alone", key, i)
			}
			if i > 0 {
				swapped := slices.Clone(someValues)
				swapped[i-1], swapped[i] = swapped[i], swapped[i-1]
				if impl.KeyedHash(key, swapped) == whole {
					t.Errorf("KeyedHash(%d, ...) is the same with places %d and %d exchanged", key, i-1, i)
				}
			}
		}
	}
	keys := map[int]int{}
	for key := -1000; key <= 1000; key++ {
		whole := impl.KeyedHash(key, someValues)
		if other, ok := keys[whole]; ok {
			t.Errorf("KeyedHash is the same with keys %d and %d", other, key)
		}
		keys[whole] = key
	}
}

func TestIsValidKey(t *testing.T) {
	for _, key := range []int{1, 2, 77, 1 << 30, impl.Modulus - 2, impl.Modulus - 1} {
		if !impl.IsValidKey(key) {
			t.Errorf("IsValidKey(%d) = false", key)
		}
	}
	for _, key := range []int{0, -1, -77, impl.Modulus, impl.Modulus + 1, 1<<32 + 1, -impl.Modulus + 1, math.MaxInt, math.MinInt} {
		if impl.IsValidKey(key) {
			t.Errorf("IsValidKey(%d) = true", key)
		}
	}
}

func TestBytesToInts(t *testing.T) {
	cases := []struct {
		b    []byte
		want []int
	}{
		{nil, []int{0}},
		{[]byte{}, []int{0}},
		{[]byte{0}, []int{1, 0}},
		{[]byte{9, 8}, []int{2, 9, 8}},
		{[]byte{0, 127, 128, 255}, []int{4, 0, 127, 128, 255}},
	}
	for _, c := range cases {
		if got := impl.BytesToInts(c.b); !slices.Equal(got, c.want) {
			t.Errorf("BytesToInts(%v) = %v, want %v", c.b, got, c.want)
		}
	}
	long := impl.BytesToInts(bytes.Repeat([]byte{255}, 1000))
	if want := slices.Concat([]int{1000}, slices.Repeat([]int{255}, 1000)); !slices.Equal(long, want) {
		t.Errorf("BytesToInts of 1000 bytes = %v", long)
	}
}

func TestEncrypt(t *testing.T) {
	cases := []struct {
		key        int
		plaintext  []byte
		ciphertext []byte
	}{
		{77, nil, nil},
		{0, []byte{}, nil},
		{77, []byte("hello"), []byte{249, 57, 131, 198, 12}},
		{1, []byte{0, 0, 0, 0}, []byte{90, 157, 224, 35}},
		{0, []byte{0, 0, 0, 0}, []byte{255, 66, 133, 200}},
		{impl.Modulus, []byte{0, 0, 0, 0}, []byte{255, 66, 133, 200}},
		{impl.Modulus - 1, []byte{255, 255, 255, 255}, []byte{162, 229, 40, 107}},
		{-1, []byte{0, 1, 2}, []byte{163, 231, 43}},
	}
	for _, c := range cases {
		if got := impl.Encrypt(c.key, c.plaintext); !slices.Equal(got, c.ciphertext) {
			t.Errorf("Encrypt(%d, %v) = %v, want %v", c.key, c.plaintext, got, c.ciphertext)
		}
		if got := impl.Decrypt(c.key, c.ciphertext); !slices.Equal(got, c.plaintext) {
			t.Errorf("Decrypt(%d, %v) = %v, want %v", c.key, c.ciphertext, got, c.plaintext)
		}
	}
}

// Every byte at every place is shifted as defined, so that sums beyond 255 and differences below 0 occur with each key.
func TestCipherAsDefined(t *testing.T) {
	text := make([]byte, 700)
	for _, key := range someKeys {
		for _, first := range []int{0, 85, 170, 255} {
			for i := range text {
				text[i] = byte(first + i*7)
			}
			encrypted, decrypted := impl.Encrypt(key, text), impl.Decrypt(key, text)
			if len(encrypted) != len(text) || len(decrypted) != len(text) {
				t.Fatalf("Encrypt and Decrypt of %d bytes return %d and %d", len(text), len(encrypted), len(decrypted))
			}
			for i, b := range text {
				k := keyedHashSlowly(key, []int{i}) % 256
				if want := (int(b) + k) % 256; int(encrypted[i]) != want {
					t.Errorf("Encrypt by %d makes %d at index %d to %d, want %d", key, b, i, encrypted[i], want)
				}
				if want := (int(b) - k + 256) % 256; int(decrypted[i]) != want {
					t.Errorf("Decrypt by %d makes %d at index %d to %d, want %d", key, b, i, decrypted[i], want)
				}
			}
		}
	}
}

func TestDecryptInvertsEncrypt(t *testing.T) {
	texts := [][]byte{nil, {}, {0}, {255}, []byte("hello"), bytes.Repeat([]byte{0}, 600), bytes.Repeat([]byte{255, 1}, 300)}
	for b := range 256 {
		texts = append(texts, []byte{byte(b), byte(255 - b), byte(b)})
	}
	for _, key := range someKeys {
		for _, text := range texts {
			if got := impl.Decrypt(key, impl.Encrypt(key, text)); !slices.Equal(got, text) {
				t.Errorf("Decrypt(%d, Encrypt(%d, %v)) = %v", key, key, text, got)
			}
			if got := impl.Encrypt(key, impl.Decrypt(key, text)); !slices.Equal(got, text) {
				t.Errorf("Encrypt(%d, Decrypt(%d, %v)) = %v", key, key, text, got)
			}
		}
	}
	if c := impl.Encrypt(77, []byte("hello")); slices.Equal(impl.Decrypt(78, c), []byte("hello")) {
		t.Error("another key decrypts a ciphertext")
	}
}

func TestDeriveFromString(t *testing.T) {
	labels := []string{"", "a", "ab", "ba", "key", "\x00", "\x00\x00", "\xff\x00", "é", "日本", "\xff\xfe", strings.Repeat("long ", 100)}
	for _, key := range someKeys {
		for _, label := range labels {
			values := []int{len(label)}
			for i := range len(label) {
				values = append(values, int(label[i]))
			}
			want := keyedHashSlowly(key, values)
			if got := impl.DeriveFromString(key, label); want == 0 || got != want {
				t.Errorf("DeriveFromString(%d, %q) = %d, want %d", key, label, got, want)
			}
		}
	}
}

// For each label there is one key from which 0 would be derived, and one from which 1 is derived.
func TestDeriveFromStringIsNeverZero(t *testing.T) {
	cases := []struct {
		label     string
		zero, one int
	}{
		{"", 1310415589, 185075670},
		{"ab", 916074962, 1778320862},
		{"key", 1750805042, 2073968516},
		{"\xff\x00", 293453469, 1155699369},
		{"é", 330104210, 1192350110},
	}
	for _, c := range cases {
		values := impl.BytesToInts([]byte(c.label))
		checkKeyedHash(t, c.zero, values, 0)
		checkKeyedHash(t, c.one, values, 1)
		for _, key := range []int{c.zero, c.zero + impl.Modulus, c.zero - impl.Modulus, c.one} {
			if got := impl.DeriveFromString(key, c.label); got != 1 {
				t.Errorf("DeriveFromString(%d, %q) = %d, want 1", key, c.label, got)
			}
		}
		next := impl.DeriveFromString(c.zero+1, c.label)
		if next != keyedHashSlowly(c.zero+1, values) || !impl.IsValidKey(next) {
			t.Errorf("DeriveFromString(%d, %q) = %d", c.zero+1, c.label, next)
		}
	}
}

func TestEqualInts(t *testing.T) {
	cases := []struct {
		a, b []int
		want bool
	}{
		{nil, nil, true},
		{nil, []int{}, true},
		{[]int{}, []int{}, true},
		{[]int{0}, nil, false},
		{[]int{5, 300}, []int{5, 300}, true},
		{[]int{5, 300}, []int{5, 301}, false},
		{[]int{5, 300}, []int{4, 300}, false},
		{[]int{5, 300}, []int{300, 5}, false},
		{[]int{5, 300}, []int{5}, false},
		{[]int{5, 300}, []int{300}, false},
		{[]int{1, 0}, []int{1}, false},
		{[]int{-1}, []int{1}, false},
		{[]int{256}, []int{0}, false},
		{[]int{1 << 32}, []int{0}, false},
		{[]int{math.MinInt, math.MaxInt}, []int{math.MinInt, math.MaxInt}, true},
		{[]int{math.MinInt}, []int{math.MaxInt}, false},
	}
	for _, c := range cases {
		if got := impl.EqualInts(c.a, c.b); got != c.want {
			t.Errorf("EqualInts(%v, %v) = %t", c.a, c.b, got)
		}
		if got := impl.EqualInts(c.b, c.a); got != c.want {
			t.Errorf("EqualInts(%v, %v) = %t", c.b, c.a, got)
		}
	}
}

func TestCryptoLeavesArgumentsAlone(t *testing.T) {
	for _, values := range [][]int{{}, {5}, {-1, 0, 7}, someValues} {
		l, other := spareInts(values), spareInts(values)
		whole := slices.Clone(l[:cap(l)])
		impl.Hash(l)
		impl.KeyedHash(3, l)
		impl.EqualInts(l, other)
		if !slices.Equal(whole, l[:cap(l)]) || !slices.Equal(whole, other[:cap(other)]) {
			t.Error("Hash, KeyedHash or EqualInts writes into its argument")
		}
	}
	for _, text := range [][]byte{{}, {7}, {7, 8, 9}, bytes.Repeat([]byte{200}, 100)} {
		b := spare(text)
		checkApart(t, "BytesToInts", b, 0x55, -9, func() []int { return impl.BytesToInts(b) })
		for _, key := range someKeys {
			checkApart(t, "Encrypt", b, 0x55, 0xAA, func() []byte { return impl.Encrypt(key, b) })
			checkApart(t, "Decrypt", b, 0x55, 0xAA, func() []byte { return impl.Decrypt(key, b) })
		}
	}
}
