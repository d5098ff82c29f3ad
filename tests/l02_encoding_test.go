package tests

import (
	"bytes"
	"math"
	"slices"
	"testing"

	"loop.example/g00597/impl"
)

// varintCases are varints worked out by hand, at both sides of every change of length.
var varintCases = []struct {
	n    int
	want []byte
}{
	{0, []byte{0}},
	{1, []byte{1}},
	{127, []byte{127}},
	{128, []byte{128, 1}},
	{300, []byte{172, 2}},
	{16383, []byte{255, 127}},
	{16384, []byte{128, 128, 1}},
	{2097151, []byte{255, 255, 127}},
	{2097152, []byte{128, 128, 128, 1}},
	{268435455, []byte{255, 255, 255, 127}},
	{268435456, []byte{128, 128, 128, 128, 1}},
	{34359738367, []byte{255, 255, 255, 255, 127}},
	{34359738368, []byte{128, 128, 128, 128, 128, 1}},
	{999999999999, []byte{255, 159, 148, 165, 141, 29}},
	{impl.MaxValue, []byte{128, 160, 148, 165, 141, 29}},
}

var unencodable = []int{-1, -2, -128, -300, impl.MaxValue + 1, 2 * impl.MaxValue, 1 << 42, math.MaxInt, math.MinInt, math.MinInt + 1}

func checkReadUvarint(t *testing.T, b []byte, offset int, n int, next int, ok bool) {
	t.Helper()
	if gotN, gotNext, gotOk := impl.ReadUvarint(b, offset); gotN != n || gotNext != next || gotOk != ok {
		t.Errorf("ReadUvarint(%v, %d) = %d, %d, %t, want %d, %d, %t", b, offset, gotN, gotNext, gotOk, n, next, ok)
	}
}

func checkReadBytes(t *testing.T, b []byte, offset int, maxLen int, data []byte, next int, ok bool) {
	t.Helper()
	got, gotNext, gotOk := impl.ReadBytes(b, offset, maxLen)
	if !slices.Equal(got, data) || gotNext != next || gotOk != ok {
		t.Errorf("ReadBytes(%v, %d, %d) = %v, %d, %t, want %v, %d, %t", b, offset, maxLen, got, gotNext, gotOk, data, next, ok)
	}
}

func checkDecodeInts(t *testing.T, b []byte, offset int, count int, values []int, next int, ok bool) {
	t.Helper()
	got, gotNext, gotOk := impl.DecodeInts(b, offset, count)
	if !slices.Equal(got, values) || gotNext != next || gotOk != ok {
		t.Errorf("DecodeInts(%v, %d, %d) = %v, %d, %t, want %v, %d, %t", b, offset, count, got, gotNext, gotOk, values, next, ok)
	}
}

func TestAppendUvarint(t *testing.T) {
	for _, c := range varintCases {
		for _, prefix := range [][]byte{nil, {}, {9}, {128, 0, 255}} {
			want := slices.Concat(prefix, c.want)
			if got := impl.AppendUvarint(prefix, c.n); !slices.Equal(got, want) {
				t.Errorf("AppendUvarint(%v, %d) = %v, want %v", prefix, c.n, got, want)
			}
		}
	}
}

func TestAppendUvarintOutOfRange(t *testing.T) {
	for _, n := range unencodable {
		for _, prefix := range [][]byte{nil, {}, {9}, {128, 0, 255}} {
			if got := impl.AppendUvarint(prefix, n); !slices.Equal(got, prefix) {
				t.Errorf("AppendUvarint(%v, %d) = %v, want a copy", prefix, n, got)
			}
		}
	}
}

func TestReadUvarint(t *testing.T) {
	for _, c := range varintCases {
		checkReadUvarint(t, c.want, 0, c.n, len(c.want), true)
		b := slices.Concat([]byte{200, 7}, c.want, []byte{255})
		checkReadUvarint(t, b, 2, c.n, 2+len(c.want), true)
	}
}

func TestReadUvarintOffset(t *testing.T) {
	b := []byte{172, 2, 5}
	checkReadUvarint(t, b, 0, 300, 2, true)
	checkReadUvarint(t, b, 1, 2, 2, true)
	checkReadUvarint(t, b, 2, 5, 3, true)
	for _, offset := range []int{-1, -3, 3, 4, 100, math.MaxInt, math.MaxInt - 5, math.MinInt} {
		checkReadUvarint(t, b, offset, 0, 0, false)
		checkReadUvarint(t, nil, offset, 0, 0, false)
	}
	checkReadUvarint(t, nil, 0, 0, 0, false)
	checkReadUvarint(t, []byte{}, 0, 0, 0, false)
}

// What stands behind the end of a slice is not part of the input.
func TestReadUvarintStopsAtTheEnd(t *testing.T) {
	for _, c := range varintCases {
		for size := range c.want {
			checkReadUvarint(t, c.want[:size], 0, 0, 0, false)
			checkReadUvarint(t, slices.Clone(c.want[:size]), 0, 0, 0, false)
		}
	}
}

func TestReadUvarintRejects(t *testing.T) {
	cases := [][]byte{
		{128},
		{128, 128},
		{255, 255, 255, 255, 255},
		// Not minimal.
		{128, 0},
		{129, 0},
		{255, 0},
		{128, 128, 0},
		{172, 130, 0},
		{128, 128, 128, 0},
		{128, 128, 128, 128, 0},
		{255, 255, 255, 255, 255, 0},
		{128, 128, 128, 128, 128, 0},
		// More than six bytes.
		{128, 128, 128, 128, 128, 128},
		{128, 128, 128, 128, 128, 128, 0},
		{128, 128, 128, 128, 128, 128, 1},
		{129, 128, 128, 128, 128, 128, 1},
		{255, 255, 255, 255, 255, 255, 127},
		{128, 128, 128, 128, 128, 128, 128, 128, 128, 1},
		{128, 128, 128, 128, 128, 128, 128, 128, 128, 2},
		// More than MaxValue.
		{129, 160, 148, 165, 141, 29},
		{128, 161, 148, 165, 141, 29},
		{128, 160, 148, 165, 141, 30},
		{128, 128, 128, 128, 128, 30},
		{255, 255, 255, 255, 255, 127},
	}
	for _, b := range cases {
		checkReadUvarint(t, b, 0, 0, 0, false)
		checkReadUvarint(t, slices.Concat([]byte{1}, b), 1, 0, 0, false)
	}
}

// Zero groups before the last one are part of a minimal encoding.
func TestReadUvarintInnerZeros(t *testing.T) {
	checkReadUvarint(t, []byte{0}, 0, 0, 1, true)
	checkReadUvarint(t, []byte{0, 0}, 0, 0, 1, true)
	checkReadUvarint(t, []byte{128, 1}, 0, 128, 2, true)
	checkReadUvarint(t, []byte{129, 128, 1}, 0, 16385, 3, true)
	checkReadUvarint(t, []byte{128, 128, 128, 128, 128, 1}, 0, 34359738368, 6, true)
}

// readSlowly tells by the definition alone what ReadUvarint returns at offset 0.
func readSlowly(b []byte) (int, int, bool) {
	size := slices.IndexFunc(b, func(c byte) bool { return c < 128 }) + 1
	if size == 0 || size > 6 || size > 1 && b[size-1] == 0 {
		return 0, 0, false
	}
	n := 0
	for i := size - 1; i >= 0; i-- {
		n = n*128 + int(b[i])%128
	}
	if n > impl.MaxValue {
		return 0, 0, false
	}
	return n, size, true
}

// Every byte string of these is read as the definition says, and what is read has no other encoding.
func TestReadUvarintAllShort(t *testing.T) {
	alphabet := []byte{0, 1, 29, 30, 127, 128, 129, 255}
	var try func(b []byte)
	try = func(b []byte) {
		n, next, ok := readSlowly(b)
		gotN, gotNext, gotOk := impl.ReadUvarint(b, 0)
		if gotN != n || gotNext != next || gotOk != ok {
			t.Fatalf("ReadUvarint(%v, 0) = %d, %d, %t, want %d, %d, %t", b, gotN, gotNext, gotOk, n, next, ok)
		}
		if ok && !slices.Equal(impl.AppendUvarint(nil, gotN), b[:next]) {
			t.Fatalf("ReadUvarint(%v, 0) accepts another encoding of %d", b, gotN)
		}
		if len(b) == 7 || ok {
			return
		}
		for _, c := range alphabet {
			try(append(b[:len(b):len(b)], c))
		}
	}
	try(nil)
	for i := range 1 << 16 {
		try([]byte{byte(i >> 8), byte(i), 0, 0, 0, 0, 0})
	}
}

func TestUvarintRoundTrip(t *testing.T) {
	check := func(n int) {
		b := impl.AppendUvarint([]byte{3}, n)
		if n < 0 || n > impl.MaxValue {
			checkReadUvarint(t, b, 1, 0, 0, false)
			return
		}
		checkReadUvarint(t, b, 1, n, len(b), true)
	}
	for n := -300; n < 40000; n++ {
		check(n)
	}
	for shift := range 63 {
		for d := -2; d <= 2; d++ {
			check(1<<shift + d)
		}
	}
	for d := -200; d <= 200; d++ {
		check(impl.MaxValue + d)
	}
}

func TestAppendBytes(t *testing.T) {
	long := bytes.Repeat([]byte{6}, 300)
	cases := []struct{ b, data, want []byte }{
		{nil, nil, []byte{0}},
		{[]byte{}, []byte{}, []byte{0}},
		{[]byte{1}, nil, []byte{1, 0}},
		{[]byte{1}, []byte{7, 8}, []byte{1, 2, 7, 8}},
		{nil, []byte{0}, []byte{1, 0}},
		{nil, []byte{128, 255}, []byte{2, 128, 255}},
		{[]byte{128}, long[:127], slices.Concat([]byte{128, 127}, long[:127])},
		{[]byte{128}, long[:128], slices.Concat([]byte{128, 128, 1}, long[:128])},
		{nil, long, slices.Concat([]byte{172, 2}, long)},
	}
	for _, c := range cases {
		if got := impl.AppendBytes(c.b, c.data); !slices.Equal(got, c.want) {
			t.Errorf("AppendBytes(%v, %v) = %v, want %v", c.b, c.data, got, c.want)
		}
	}
}

func TestReadBytes(t *testing.T) {
	b := []byte{1, 2, 7, 8, 0}
	checkReadBytes(t, b, 1, 2, []byte{7, 8}, 4, true)
	checkReadBytes(t, b, 1, math.MaxInt, []byte{7, 8}, 4, true)
	checkReadBytes(t, b, 0, 1, []byte{2}, 2, true)
	checkReadBytes(t, b, 4, 0, nil, 5, true)
	checkReadBytes(t, b, 4, 100, nil, 5, true)
	checkReadBytes(t, []byte{0}, 0, 0, nil, 1, true)
	checkReadBytes(t, []byte{1, 9}, 0, 1, []byte{9}, 2, true)
	long := bytes.Repeat([]byte{6}, 300)
	checkReadBytes(t, impl.AppendBytes([]byte{4, 4}, long), 2, 300, long, 304, true)
	checkReadBytes(t, append(impl.AppendBytes(nil, long), 1, 2), 0, 300, long, 302, true)
}

func TestReadBytesRejects(t *testing.T) {
	b := []byte{1, 2, 7, 8, 0}
	// The length exceeds maxLen.
	for _, maxLen := range []int{1, 0, -1, math.MinInt} {
		checkReadBytes(t, b, 1, maxLen, nil, 0, false)
	}
	checkReadBytes(t, b, 4, -1, nil, 0, false)
	checkReadBytes(t, impl.AppendBytes(nil, bytes.Repeat([]byte{6}, 300)), 0, 299, nil, 0, false)
	// The offset is at the end or beyond.
	for _, offset := range []int{-1, 5, 6, math.MaxInt, math.MinInt} {
		checkReadBytes(t, b, offset, 10, nil, 0, false)
		checkReadBytes(t, nil, offset, 10, nil, 0, false)
	}
	checkReadBytes(t, nil, 0, 0, nil, 0, false)
	// The input is too short.
	checkReadBytes(t, b, 2, 10, nil, 0, false)
	checkReadBytes(t, b, 3, 10, nil, 0, false)
	checkReadBytes(t, []byte{1}, 0, 10, nil, 0, false)
	checkReadBytes(t, []byte{3, 1, 2}, 0, 3, nil, 0, false)
	checkReadBytes(t, []byte{3, 1, 2, 9}[:3], 0, 3, nil, 0, false)
	for _, n := range []int{300, 1 << 20, impl.MaxValue} {
		checkReadBytes(t, impl.AppendUvarint(nil, n), 0, math.MaxInt, nil, 0, false)
	}
	// The length prefix is not valid.
	prefixes := [][]byte{
		{128}, {128, 0}, {130, 0}, {130, 128, 0},
		{130, 128, 128, 128, 128, 128, 0},
		{129, 160, 148, 165, 141, 29},
	}
	for _, p := range prefixes {
		checkReadBytes(t, p, 0, 10, nil, 0, false)
		if len(p) > 1 {
			checkReadBytes(t, append(slices.Clone(p), 5, 5, 5, 5), 0, math.MaxInt, nil, 0, false)
		}
	}
}

func TestBytesRoundTrip(t *testing.T) {
	data := []byte{}
	for size := range 400 {
		b := append(impl.AppendBytes([]byte{9, 9, 9}, data), 1)
		checkReadBytes(t, b, 3, size, data, len(b)-1, true)
		checkReadBytes(t, b, 3, size-1, nil, 0, false)
		for _, cut := range []int{1, 2} {
			checkReadBytes(t, b[:len(b)-1-cut], 3, size, nil, 0, false)
		}
		data = append(data, byte(size))
	}
}

func TestEncodeInts(t *testing.T) {
	cases := []struct {
		values []int
		want   []byte
	}{
		{nil, nil},
		{[]int{}, nil},
		{[]int{0}, []byte{0}},
		{[]int{5, 300}, []byte{5, 172, 2}},
		{[]int{300, 5, 300}, []byte{172, 2, 5, 172, 2}},
		{[]int{0, 0, impl.MaxValue}, []byte{0, 0, 128, 160, 148, 165, 141, 29}},
		{[]int{-1}, nil},
		{[]int{impl.MaxValue + 1, -1}, nil},
		{[]int{-1, 5, impl.MaxValue + 1, 300, math.MinInt, 7, math.MaxInt}, []byte{5, 172, 2, 7}},
		{unencodable, nil},
	}
	for _, c := range cases {
		if got := impl.EncodeInts(c.values); !slices.Equal(got, c.want) {
			t.Errorf("EncodeInts(%v) = %v, want %v", c.values, got, c.want)
		}
	}
	var values []int
	var want []byte
	for range 20 {
		for _, c := range varintCases {
			values = append(values, c.n)
			want = append(want, c.want...)
		}
	}
	if got := impl.EncodeInts(values); !slices.Equal(got, want) {
		t.Errorf("EncodeInts of %d integers = %v, want %v", len(values), got, want)
	}
}

func TestDecodeInts(t *testing.T) {
	b := []byte{5, 172, 2, 0}
	checkDecodeInts(t, b, 0, 2, []int{5, 300}, 3, true)
	checkDecodeInts(t, b, 0, 3, []int{5, 300, 0}, 4, true)
	checkDecodeInts(t, b, 1, 1, []int{300}, 3, true)
	checkDecodeInts(t, b, 1, 2, []int{300, 0}, 4, true)
	checkDecodeInts(t, b, 2, 2, []int{2, 0}, 4, true)
	checkDecodeInts(t, b, 3, 1, []int{0}, 4, true)
	var values []int
	for _, c := range varintCases {
		values = append(values, c.n)
	}
	e := impl.EncodeInts(values)
	checkDecodeInts(t, e, 0, len(values), values, len(e), true)
}

// No integers can be decoded at every offset of the input, also at its end and from what is no varint.
func TestDecodeIntsNone(t *testing.T) {
	b := []byte{128, 0, 255}
	for offset := range len(b) + 1 {
		checkDecodeInts(t, b, offset, 0, nil, offset, true)
	}
	checkDecodeInts(t, nil, 0, 0, nil, 0, true)
	checkDecodeInts(t, []byte{}, 0, 0, nil, 0, true)
	for _, offset := range []int{-1, 4, math.MaxInt, math.MinInt} {
		checkDecodeInts(t, b, offset, 0, nil, 0, false)
	}
	checkDecodeInts(t, nil, 1, 0, nil, 0, false)
	checkDecodeInts(t, nil, -1, 0, nil, 0, false)
}

func TestDecodeIntsCount(t *testing.T) {
	b := make([]byte, 150)
	checkDecodeInts(t, b, 0, 99, make([]int, 99), 99, true)
	checkDecodeInts(t, b, 0, 100, make([]int, 100), 100, true)
	checkDecodeInts(t, b, 50, 100, make([]int, 100), 150, true)
	checkDecodeInts(t, b, 51, 100, nil, 0, false)
	for _, count := range []int{101, 102, 150, -1, -100, math.MaxInt, math.MinInt} {
		checkDecodeInts(t, b, 0, count, nil, 0, false)
		checkDecodeInts(t, nil, 0, count, nil, 0, false)
	}
}

func TestDecodeIntsRejects(t *testing.T) {
	b := []byte{5, 172, 2, 0}
	checkDecodeInts(t, b, 0, 4, nil, 0, false)
	checkDecodeInts(t, b, 0, 100, nil, 0, false)
	checkDecodeInts(t, b, 4, 1, nil, 0, false)
	checkDecodeInts(t, nil, 0, 1, nil, 0, false)
	for _, offset := range []int{-1, 5, math.MaxInt, math.MinInt} {
		checkDecodeInts(t, b, offset, 1, nil, 0, false)
	}
	broken := [][]byte{
		{128}, {128, 0}, {172, 130, 0},
		{128, 128, 128, 128, 128, 128, 1},
		{129, 160, 148, 165, 141, 29},
	}
	for _, v := range broken {
		checkDecodeInts(t, v, 0, 1, nil, 0, false)
		last := slices.Concat([]byte{5, 6}, v)
		checkDecodeInts(t, last, 0, 2, []int{5, 6}, 2, true)
		checkDecodeInts(t, last, 0, 3, nil, 0, false)
		if len(v) > 1 {
			checkDecodeInts(t, slices.Concat(v, []byte{5, 6}), 0, 2, nil, 0, false)
		}
	}
	// A varint is cut off by the end of the slice, whatever stands behind it.
	checkDecodeInts(t, b[:2], 0, 2, nil, 0, false)
}

func TestEqualBytes(t *testing.T) {
	cases := []struct {
		a, b []byte
		want bool
	}{
		{nil, nil, true},
		{nil, []byte{}, true},
		{[]byte{}, []byte{}, true},
		{[]byte{0}, nil, false},
		{[]byte{0}, []byte{0}, true},
		{[]byte{1}, []byte{2}, false},
		{[]byte{1, 2, 3}, []byte{1, 2, 3}, true},
		{[]byte{1, 2, 3}, []byte{1, 2, 4}, false},
		{[]byte{1, 2, 3}, []byte{0, 2, 3}, false},
		{[]byte{1, 2, 3}, []byte{1, 0, 3}, false},
		{[]byte{1, 2, 3}, []byte{1, 2}, false},
		{[]byte{1, 2, 3}, []byte{2, 3}, false},
		{[]byte{1, 2}, []byte{2, 1}, false},
		{[]byte{1, 0}, []byte{1}, false},
		{[]byte{255}, []byte{127}, false},
	}
	for _, c := range cases {
		if got := impl.EqualBytes(c.a, c.b); got != c.want {
			t.Errorf("EqualBytes(%v, %v) = %t", c.a, c.b, got)
		}
		if got := impl.EqualBytes(c.b, c.a); got != c.want {
			t.Errorf("EqualBytes(%v, %v) = %t", c.b, c.a, got)
		}
	}
	shared := []byte{1, 2, 1, 2}
	if !impl.EqualBytes(shared[:2], shared[2:]) || impl.EqualBytes(shared[:2], shared[:3]) {
		t.Error("EqualBytes of parts of one slice")
	}
}

func TestEncodingLeavesArgumentsAlone(t *testing.T) {
	for _, start := range [][]byte{{}, {9}, {1, 2, 3}} {
		b := spare(start)
		for _, n := range []int{0, 300, impl.MaxValue, -1, impl.MaxValue + 1} {
			checkApart(t, "AppendUvarint", b, 0x55, 0xAA, func() []byte { return impl.AppendUvarint(b, n) })
		}
		for _, content := range [][]byte{{}, {7}, {7, 8}, bytes.Repeat([]byte{7}, 200)} {
			data := spare(content)
			call := func() []byte { return impl.AppendBytes(b, data) }
			checkApart(t, "AppendBytes", b, 0x55, 0xAA, call)
			checkApart(t, "AppendBytes", data, 0x55, 0xAA, call)
		}
		call := func() []byte { return impl.AppendBytes(b, b) }
		checkApart(t, "AppendBytes", b, 0x55, 0xAA, call)
	}
	for _, values := range [][]int{{}, {5}, {-1}, {5, 300, -1, impl.MaxValue}} {
		l := spareInts(values)
		checkApart(t, "EncodeInts", l, -9, 0xAA, func() []byte { return impl.EncodeInts(l) })
	}
}

func TestDecodingLeavesArgumentsAlone(t *testing.T) {
	for _, input := range [][]byte{{}, {0}, {2, 7, 8}, {2, 7, 8, 9}, {128, 0}, {5, 172, 2}, {200, 1, 6}} {
		b := spare(input)
		for _, maxLen := range []int{-1, 0, 2, 1000} {
			for offset := range len(b) + 1 {
				checkApart(t, "ReadBytes", b, 0x55, 0xAA, func() []byte {
					data, _, _ := impl.ReadBytes(b, offset, maxLen)
					return data
				})
			}
		}
		for _, count := range []int{-1, 0, 1, 2, 101} {
			checkApart(t, "DecodeInts", b, 0x55, -9, func() []int {
				values, _, _ := impl.DecodeInts(b, 0, count)
				return values
			})
		}
		whole := slices.Clone(b[:cap(b)])
		impl.ReadUvarint(b, 0)
		impl.EqualBytes(b, b)
		if !slices.Equal(whole, b[:cap(b)]) {
			t.Error("ReadUvarint or EqualBytes writes into its argument")
		}
	}
}
