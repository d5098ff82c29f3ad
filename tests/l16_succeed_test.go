package tests

import (
	"math"
	"slices"
	"testing"

	"loop.example/g00597/impl"
)

// lineKeys: 11 to 15 are of the person 1, 21 and 22 of the person 2, and the second key 12 counts for nobody.
var lineKeys = []impl.Key{
	key(11, 1, 1, 0, 511), key(12, 1, 2, 0, 512), key(13, 1, 3, 0, 513), key(14, 1, 1, 0, 514), key(15, 1, 1, 0, 515),
	key(21, 2, 1, 0, 521), key(22, 2, 1, 0, 522), key(12, 2, 1, 0, 599),
}

func succession(old int, next int, from int) impl.Succession {
	return impl.Succession{Old: old, New: next, From: from}
}

// someSuccessions can be made with lineKeys.
var someSuccessions = []impl.Succession{
	succession(11, 12, 10), succession(12, 11, 0), succession(13, 15, impl.MaxTime), succession(22, 21, 1), succession(14, 12, 10),
}

var successionFields = []field[impl.Succession]{
	{"Old", func(x *impl.Succession) *int { return &x.Old }, 11, 22},
	{"New", func(x *impl.Succession) *int { return &x.New }, 11, 22},
	{"From", func(x *impl.Succession) *int { return &x.From }, 0, impl.MaxTime},
	{"Mark", func(x *impl.Succession) *int { return &x.Mark }, 0, impl.Modulus - 1},
}

var successions = statement[impl.Succession]{
	name:   "succession",
	make:   impl.MakeSuccession,
	check:  impl.CheckSuccession,
	ints:   func(x impl.Succession) []int { return []int{106, x.Old, x.New, x.From} },
	fields: successionFields,
	key:    func(x *impl.Succession) *int { return &x.Old },
	mark:   func(x *impl.Succession) *int { return &x.Mark },
}

// successionBy returns a succession with the mark of the old key of lineKeys, whether or not this is allowed.
func successionBy(old int, next int, from int) impl.Succession {
	k, _ := keySlowly(lineKeys, old)
	return successions.markedBy(k, succession(old, next, from))
}

// canSucceedSlowly tells by the definition alone whether MakeSuccession succeeds.
func canSucceedSlowly(keys []impl.Key, x impl.Succession) bool {
	old, i := keySlowly(keys, x.Old)
	next, j := keySlowly(keys, x.New)
	return i >= 0 && j >= 0 && i != j && old.Owner == next.Owner && x.From >= 0 && x.From <= 10000
}

// nextSlowly tells by the definition alone what NextKey returns.
func nextSlowly(keys []impl.Key, l []impl.Succession, number int, time int) int {
	for _, x := range l {
		k, _ := keySlowly(keys, x.Old)
		if x.Old == number && x.From <= time && canSucceedSlowly(keys, x) && x == successions.markedBy(k, x) {
			return x.New
		}
	}
	return 0
}

// lineSlowly tells by the definition alone what KeyLine returns.
func lineSlowly(keys []impl.Key, l []impl.Succession, number int, time int) []int {
	line := []int{}
	if _, i := keySlowly(keys, number); i < 0 {
		return line
	}
	for number != 0 && !slices.Contains(line, number) {
		line = append(line, number)
		number = nextSlowly(keys, l, number, time)
	}
	return line
}

// checkLine checks the line of a key, and all that follows from it.
func checkLine(t *testing.T, keys []impl.Key, l []impl.Succession, number int, time int, want []int) {
	t.Helper()
	if got := impl.KeyLine(keys, l, number, time); !slices.Equal(got, want) {
		t.Errorf("KeyLine(%v, %d, %d) = %v, want %v", l, number, time, got, want)
	}
	last := 0
	if len(want) > 0 {
		last = want[len(want)-1]
	}
	if got := impl.CurrentKey(keys, l, number, time); got != last {
		t.Errorf("CurrentKey(%v, %d, %d) = %d, want %d", l, number, time, got, last)
	}
	if got, next := impl.NextKey(keys, l, number, time), nextSlowly(keys, l, number, time); got != next {
		t.Errorf("NextKey(%v, %d, %d) = %d, want %d", l, number, time, got, next)
	}
}

func checkNoSuccession(t *testing.T, keys []impl.Key, x impl.Succession) {
	t.Helper()
	successions.checkNotMade(t, keys, x)
}

func TestSuccessionInts(t *testing.T) {
	if got := impl.SuccessionInts(impl.Succession{Old: 2, New: 3, From: 4, Mark: 5}); !slices.Equal(got, []int{106, 2, 3, 4}) {
		t.Errorf("SuccessionInts = %v", got)
	}
	successions.checkInts(t, impl.SuccessionInts, append(slices.Clone(someSuccessions), impl.Succession{}, succession(-1, math.MinInt, math.MaxInt)))
}

func TestMakeSuccession(t *testing.T) {
	for _, x := range someSuccessions {
		for _, old := range []int{0, -1, 5, math.MinInt, math.MaxInt} {
			x.Mark = old
			successions.checkHolds(t, lineKeys, successions.made(t, lineKeys, x), true)
		}
	}
	if got := successions.made(t, lineKeys, succession(12, 11, 5)); got.Mark != hashSlowly([]int{512, 2, 106, 12, 11, 5, 512}) {
		t.Errorf("MakeSuccession returns %v", got)
	}
}

// All pairs of keys, among them ones that are not there.
func TestSuccessionsOfAllKeys(t *testing.T) {
	numbers := []int{11, 12, 13, 14, 15, 21, 22, 0, 1, 10, 16, 20, 23, 99, -11, math.MinInt, math.MaxInt}
	for _, old := range numbers {
		for _, next := range numbers {
			isMade := old >= 11 && old <= 15 && next >= 11 && next <= 15 && old != next || old == 21 && next == 22 || old == 22 && next == 21
			x := succession(old, next, 7)
			if isMade {
				successions.checkHolds(t, lineKeys, successions.made(t, lineKeys, x), true)
			} else {
				checkNoSuccession(t, lineKeys, x)
			}
			checkNoSuccession(t, nil, x)
		}
	}
}

func TestSuccessionsFromAllTimes(t *testing.T) {
	for _, from := range []int{0, 1, 5000, impl.MaxTime - 1, impl.MaxTime} {
		successions.checkHolds(t, lineKeys, successions.made(t, lineKeys, succession(11, 12, from)), true)
	}
	for _, from := range []int{-1, -2, impl.MaxTime + 1, impl.MaxTime + 2, math.MinInt, math.MaxInt} {
		checkNoSuccession(t, lineKeys, succession(11, 12, from))
	}
}

// Neither numbers nor owners need be valid.
func TestSuccessionsOfOddKeys(t *testing.T) {
	keys := []impl.Key{key(0, 7, 1, 0, 3), key(-4, 7, 1, 0, 4), key(100, -1, 1, 0, 5), key(5, -1, 1, 0, 6), key(5, 7, 1, 0, 6)}
	for _, x := range []impl.Succession{succession(0, -4, 5), succession(-4, 0, 5), succession(100, 5, 5), succession(5, 100, 0)} {
		successions.checkHolds(t, keys, successions.made(t, keys, x), true)
	}
	for _, x := range []impl.Succession{succession(0, 5, 5), succession(5, -4, 5), succession(5, 5, 5), succession(0, 0, 5), {}} {
		checkNoSuccession(t, keys, x)
	}
	// The owner 0 has no key that is not there.
	ownerless := []impl.Key{key(11, 0, 1, 0, 5), key(12, 0, 1, 0, 6)}
	for _, next := range []int{13, 0, -11} {
		checkNoSuccession(t, ownerless, succession(11, next, 5))
	}
	successions.checkHolds(t, ownerless, successions.made(t, ownerless, succession(11, 12, 5)), true)
}

func TestSuccessionsAreCheckedAsTheyWereMade(t *testing.T) {
	for _, x := range someSuccessions {
		checkChanges(t, successions.made(t, lineKeys, x), func(y impl.Succession) bool { return impl.CheckSuccession(lineKeys, y) }, successionFields)
		for _, k := range lineKeys {
			counts, _ := keySlowly(lineKeys, k.Number)
			successions.checkHolds(t, lineKeys, successions.markedBy(k, x), k == counts && k.Number == x.Old)
		}
	}
	x := successionBy(11, 12, 5)
	successions.checkHolds(t, []impl.Key{lineKeys[0], lineKeys[1]}, x, true)
	successions.checkHolds(t, []impl.Key{lineKeys[0]}, x, false)
	successions.checkHolds(t, []impl.Key{lineKeys[1]}, x, false)
	successions.checkHolds(t, []impl.Key{lineKeys[0], key(12, 2, 2, 0, 512)}, x, false)
}

func TestNextKey(t *testing.T) {
	off, later := successionBy(11, 13, 5), successionBy(11, 14, 5)
	off.Mark++
	later.From = 4
	cases := []struct {
		l    []impl.Succession
		time int
		want int
	}{
		{nil, 50, 0}, {[]impl.Succession{}, 50, 0}, {[]impl.Succession{successionBy(11, 12, 10)}, 50, 12},
		{[]impl.Succession{successionBy(11, 12, 10)}, 10, 12}, {[]impl.Succession{successionBy(11, 12, 10)}, 9, 0}, {[]impl.Succession{successionBy(11, 12, 10)}, 11, 12},
		{[]impl.Succession{successionBy(11, 12, 0)}, 0, 12}, {[]impl.Succession{successionBy(11, 12, 0)}, -1, 0}, {[]impl.Succession{successionBy(11, 12, 0)}, math.MinInt, 0},
		{[]impl.Succession{successionBy(11, 12, impl.MaxTime)}, math.MaxInt, 12}, {[]impl.Succession{successionBy(11, 12, impl.MaxTime)}, impl.MaxTime - 1, 0},
		// Of several, the first one counts that holds at this time.
		{[]impl.Succession{successionBy(11, 13, 10), successionBy(11, 12, 10)}, 50, 13}, {[]impl.Succession{successionBy(11, 13, 20), successionBy(11, 12, 10)}, 50, 13},
		{[]impl.Succession{successionBy(11, 13, 20), successionBy(11, 12, 10)}, 19, 12}, {[]impl.Succession{successionBy(12, 13, 0), successionBy(11, 12, 10)}, 19, 12},
		// Those that do not check do not count.
		{[]impl.Succession{off, later, successionBy(11, 21, 0), successionBy(11, 11, 0), successionBy(11, 99, 0), successionBy(11, 12, -1)}, 50, 0},
		{[]impl.Succession{off, later, successionBy(11, 21, 0), successionBy(11, 15, 0), successionBy(11, 12, 0)}, 50, 15},
		{[]impl.Succession{successionBy(12, 11, 0), successionBy(21, 22, 0)}, 50, 0},
	}
	for _, c := range cases {
		if got := impl.NextKey(lineKeys, c.l, 11, c.time); got != c.want {
			t.Errorf("NextKey(%v, 11, %d) = %d, want %d", c.l, c.time, got, c.want)
		}
		for _, number := range []int{0, 99, -11, math.MaxInt} {
			if got := impl.NextKey(lineKeys, c.l, number, c.time); got != 0 {
				t.Errorf("NextKey(%v, %d, %d) = %d", c.l, number, c.time, got)
			}
		}
		if got := impl.NextKey(nil, c.l, 11, c.time); got != 0 {
			t.Errorf("NextKey(%v, 11, %d) without keys = %d", c.l, c.time, got)
		}
	}
}

func TestKeyLine(t *testing.T) {
	line := []impl.Succession{successionBy(11, 12, 10), successionBy(12, 14, 20), successionBy(14, 13, 5)}
	circle := append(slices.Clone(line), successionBy(13, 11, 7))
	two := []impl.Succession{successionBy(11, 12, 0), successionBy(12, 11, 0)}
	// The line comes to a circle that it does not begin in.
	loop := []impl.Succession{successionBy(11, 12, 0), successionBy(12, 14, 0), successionBy(14, 15, 0), successionBy(15, 12, 0)}
	cases := []struct {
		l    []impl.Succession
		key  int
		time int
		want []int
	}{
		{nil, 11, 50, []int{11}}, {[]impl.Succession{}, 11, -1, []int{11}}, {line, 15, 50, []int{15}}, {line, 21, 50, []int{21}},
		{line, 11, 9, []int{11}}, {line, 11, 10, []int{11, 12}}, {line, 11, 19, []int{11, 12}}, {line, 11, 20, []int{11, 12, 14, 13}}, {line, 12, 20, []int{12, 14, 13}},
		{line, 13, 20, []int{13}}, {line, 14, 5, []int{14, 13}}, {line, 14, 4, []int{14}}, {line, 11, -1, []int{11}}, {line, 11, math.MaxInt, []int{11, 12, 14, 13}}, {line, 11, math.MinInt, []int{11}},
		{circle, 11, 50, []int{11, 12, 14, 13}}, {circle, 12, 50, []int{12, 14, 13, 11}}, {circle, 13, 50, []int{13, 11, 12, 14}}, {circle, 14, 10, []int{14, 13, 11, 12}},
		{two, 11, 0, []int{11, 12}}, {two, 12, 0, []int{12, 11}}, {two, 12, -1, []int{12}},
		{loop, 11, 0, []int{11, 12, 14, 15}}, {loop, 14, 0, []int{14, 15, 12}},
		// No such key.
		{line, 10, 50, nil}, {line, 0, 50, nil}, {line, -11, 50, nil}, {line, 99, 50, nil}, {[]impl.Succession{successionBy(99, 11, 0)}, 99, 50, nil},
		// Of another owner.
		{[]impl.Succession{successionBy(11, 21, 0), successionBy(21, 22, 0)}, 11, 50, []int{11}}, {[]impl.Succession{successionBy(11, 21, 0), successionBy(21, 22, 0)}, 21, 50, []int{21, 22}},
	}
	for _, c := range cases {
		checkLine(t, lineKeys, c.l, c.key, c.time, c.want)
		checkLine(t, nil, c.l, c.key, c.time, nil)
	}
}

// A key with the number 0 has no line, and a line ends before it.
func TestKeyZero(t *testing.T) {
	keys := []impl.Key{key(0, 1, 1, 0, 5), key(11, 1, 1, 0, 6), key(-7, 1, 1, 0, 7)}
	by := func(old int, next int) impl.Succession {
		k, _ := keySlowly(keys, old)
		return successions.markedBy(k, succession(old, next, 3))
	}
	l := []impl.Succession{by(0, 11), by(11, 0), by(-7, 11)}
	for _, x := range l {
		successions.checkHolds(t, keys, x, true)
	}
	checkLine(t, keys, l, 0, 50, nil)
	checkLine(t, keys, nil, 0, 50, nil)
	checkLine(t, keys, l, 11, 50, []int{11})
	checkLine(t, keys, l, -7, 50, []int{-7, 11})
	if got := impl.NextKey(keys, l, 0, 50); got != 11 {
		t.Errorf("NextKey of the key 0 = %d", got)
	}
}

// Keys in one line have one owner, whatever successions there are.
func TestSuccessionsAsDefined(t *testing.T) {
	off := successionBy(12, 14, 0)
	off.Mark--
	some := []impl.Succession{successionBy(11, 12, 2), successionBy(12, 11, 1), off, successionBy(12, 13, 2), successionBy(13, 12, 0), successionBy(13, 21, 0), successionBy(21, 22, 1), successionBy(11, 14, 0), successionBy(14, 11, 3)}
	for _, list := range subsets(len(some)) {
		l := []impl.Succession{}
		for _, i := range list {
			l = append(l, some[i])
		}
		for _, number := range []int{11, 12, 13, 14, 21, 22, 99} {
			for time := -1; time <= 3; time++ {
				line := lineSlowly(lineKeys, l, number, time)
				checkLine(t, lineKeys, l, number, time, line)
				for _, other := range line {
					if impl.OwnerOf(lineKeys, other) != impl.OwnerOf(lineKeys, number) {
						t.Errorf("the line of %d is %v", number, line)
					}
				}
			}
		}
	}
}

func TestLongLine(t *testing.T) {
	keys, l, want := []impl.Key{}, []impl.Succession{}, []int{}
	for n := 1; n <= 300; n++ {
		k := key(n, 5, 1, 0, n)
		keys, want = append(keys, k), append(want, n)
		l = append(l, successions.markedBy(k, succession(n, n%300+1, n)))
	}
	checkLine(t, keys, l, 1, 300, want)
	checkLine(t, keys, l, 1, 299, want)
	checkLine(t, keys, l, 1, 298, want[:299])
}

func TestSuccessionsLeaveArgumentsAlone(t *testing.T) {
	keys := spareKeys(lineKeys)
	for _, list := range [][]impl.Succession{{}, {successionBy(11, 12, 0)}, {successionBy(13, 11, 0), successionBy(12, 13, 0), successionBy(11, 12, 0)}} {
		l := spareOf(list, successionBy(11, 14, 0))
		checkApart(t, "KeyLine", l, succession(1, 2, 3), -1, func() []int { return impl.KeyLine(keys, l, 11, 50) })
		checkUnchanged(t, "successions", l, func() { impl.NextKey(keys, l, 11, 50) }, func() { impl.CurrentKey(keys, l, 11, 50) })
		checkUnchanged(t, "successions", keys, func() { impl.KeyLine(keys, l, 11, 50) }, func() { impl.NextKey(keys, l, 11, 50) }, func() { impl.CurrentKey(keys, l, 11, 50) })
	}
	for _, x := range append(slices.Clone(someSuccessions), impl.Succession{}) {
		checkUnchanged(t, "successions", keys, func() { impl.MakeSuccession(keys, x) }, func() { impl.CheckSuccession(keys, x) })
	}
}
