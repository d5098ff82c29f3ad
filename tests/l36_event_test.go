package tests

import (
	"math"
	"slices"
	"testing"

	"loop.example/g00597/impl"
)

// noKinds are numbers that are no kinds of events.
var noKinds = []int{0, 11, 12, -1, -10, 256 + 1, 1 << 32, 1<<32 + 1, math.MinInt, math.MaxInt}

func TestEventName(t *testing.T) {
	for i, name := range []string{"tick", "sign", "answer", "revoke", "renew", "move", "forget", "forge", "backdate", "fake"} {
		if got := impl.EventName(i + 1); got != name {
			t.Errorf("EventName(%d) = %q, want %q", i+1, got, name)
		}
	}
	for _, kind := range noKinds {
		if got := impl.EventName(kind); got != "" {
			t.Errorf("EventName(%d) = %q", kind, got)
		}
	}
	kinds := []int{impl.EvTick, impl.EvSign, impl.EvAnswer, impl.EvRevoke, impl.EvRenew, impl.EvMove, impl.EvForget, impl.EvForge, impl.EvBackdate, impl.EvFake}
	if !slices.Equal(kinds, upTo(10)) {
		t.Errorf("the kinds are %v", kinds)
	}
}

func checkEvent(t *testing.T, w impl.World, e impl.Event) {
	t.Helper()
	want, wantOk := happenSlowly(w, e)
	if got, ok := impl.ApplyEvent(w, e); ok != wantOk || !same(got, want) {
		t.Errorf("ApplyEvent of %v = %v, %t, want %v, %t", e, got, ok, want, wantOk)
	}
}

// Every kind takes what it needs, and nothing else.
func TestApplyEvent(t *testing.T) {
	w := busyWorld()
	taken := map[int]string{1: "A", 2: "ABCDd", 3: "A", 4: "A", 5: "ABi", 6: "ABC", 7: "A", 8: "ABd", 9: "AB", 10: "AB"}
	for _, e := range someEvents() {
		checkEvent(t, w, e)
		want, wantOk := stepOf(w, e)
		others := map[rune]func(e *impl.Event){
			'A': func(e *impl.Event) { e.A += 50 }, 'B': func(e *impl.Event) { e.B += 50 }, 'C': func(e *impl.Event) { e.C += 150 }, 'D': func(e *impl.Event) { e.D += 5 },
			'd': func(e *impl.Event) { e.Doc = pages(8) }, 'i': func(e *impl.Event) { e.Ids = []int{1, 3} },
		}
		for field, change := range others {
			other := e
			change(&other)
			checkEvent(t, w, other)
			got, ok := impl.ApplyEvent(w, other)
			isTaken := slices.Contains([]rune(taken[e.Kind]), field)
			if !isTaken && (ok != wantOk || !same(got, want)) {
				t.Errorf("ApplyEvent of %v depends on its field %c", e, field)
			}
			if isTaken && wantOk && ok && same(got, want) {
				t.Errorf("ApplyEvent of %v does not depend on its field %c", e, field)
			}
		}
		for _, kind := range noKinds {
			other := e
			other.Kind = kind
			if got, ok := impl.ApplyEvent(w, other); ok || !same(got, w) {
				t.Errorf("ApplyEvent of the kind %d = %v, %t", kind, got, ok)
			}
		}
	}
}

// runSlowly returns the world after all events.
func runSlowly(w impl.World, list []impl.Event) impl.World {
	for _, e := range list {
		w, _ = happenSlowly(w, e)
	}
	return clone(w)
}

// historyOf returns events of all kinds, of which some do not succeed.
func historyOf(seed uint64, w impl.World, n int, isHonest bool) []impl.Event {
	h, list := newHistorian(seed), []impl.Event{}
	for range n {
		e := h.next(w, isHonest)
		list = append(list, e)
		w, _ = happenSlowly(w, e)
	}
	return list
}

// Histories can be divided.
func TestRunEvents(t *testing.T) {
	for seed := range uint64(6) {
		for _, w := range []impl.World{impl.NewWorld(int(seed % 2)), busyWorld(), {}} {
			list := historyOf(seed, w, 40, seed%3 == 0)
			want := runSlowly(w, list)
			for i := range len(list) + 1 {
				if got := impl.RunEvents(impl.RunEvents(w, list[:i]), list[i:]); !same(got, want) {
					t.Fatalf("seed %d: RunEvents, divided at %d, = %v, want %v", seed, i, got, want)
				}
			}
			for _, none := range [][]impl.Event{nil, {}, {{}}, {event(11), event(-1, 5)}} {
				if got := impl.RunEvents(w, none); !same(got, w) {
					t.Errorf("RunEvents of nothing = %v", got)
				}
			}
		}
	}
	// One that does not succeed among others that do.
	w := busyWorld()
	for _, odd := range []impl.Event{event(impl.EvTick, 101), event(impl.EvRevoke, 0), event(0), event(impl.EvMove, 0, 0, 2), forging(0, 13, pages(4))} {
		got := impl.RunEvents(w, []impl.Event{event(impl.EvTick, 1), odd, event(impl.EvRevoke, 1), odd, event(impl.EvTick, 2)})
		if got.Frame.Now != 55 || got.Ended[1] != 54 || len(got.Archives[0].Items) != 1 {
			t.Errorf("with %v among the events: %v", odd, got)
		}
	}
}

func TestIsHonestAndCountKind(t *testing.T) {
	honest := []impl.Event{event(1, 3), event(2), event(3), event(4), event(5), event(6), event(7)}
	for _, l := range [][]impl.Event{nil, {}, honest, honest[3:4]} {
		if !impl.IsHonest(l) {
			t.Errorf("IsHonest(%v) = false", l)
		}
	}
	for kind := -3; kind <= 14; kind++ {
		want := kind < 8 || kind > 10
		for i := range len(honest) + 1 {
			if got := impl.IsHonest(slices.Insert(slices.Clone(honest), i, event(kind))); got != want {
				t.Errorf("IsHonest with the kind %d at %d = %t", kind, i, got)
			}
		}
		if got := impl.IsHonest([]impl.Event{event(kind)}); got != want {
			t.Errorf("IsHonest with the kind %d alone = %t", kind, got)
		}
	}
	for _, kind := range noKinds {
		if !impl.IsHonest([]impl.Event{event(kind)}) {
			t.Errorf("IsHonest with the kind %d = false", kind)
		}
	}
	l := []impl.Event{event(3, 8), event(1), event(0), event(3), event(8, 3), event(11), event(3), event(math.MinInt), event(0), event(math.MaxInt)}
	for kind, want := range map[int]int{0: 2, 1: 1, 2: 0, 3: 3, 8: 1, 10: 0, 11: 1, 12: 0, -1: 0, math.MinInt: 1, math.MaxInt: 1} {
		if got := impl.CountKind(l, kind); got != want {
			t.Errorf("CountKind of %d = %d, want %d", kind, got, want)
		}
		if impl.CountKind(nil, kind) != 0 || impl.CountKind([]impl.Event{}, kind) != 0 {
			t.Errorf("CountKind of %d in nothing", kind)
		}
	}
}

// runArgs are the arguments of RunEvents.
type runArgs struct {
	World  impl.World
	Events []impl.Event
}

func TestEventsLeaveArgumentsAlone(t *testing.T) {
	for _, e := range append(someEvents(), event(0), event(11)) {
		checkMemory(t, "ApplyEvent", stepArgs{busyWorld(), e}, func(x stepArgs) stepResult {
			w, ok := impl.ApplyEvent(x.World, x.Event)
			return stepResult{w, ok}
		})
	}
	for _, l := range [][]impl.Event{nil, {event(0)}, someEvents(), historyOf(5, busyWorld(), 20, false)} {
		checkMemory(t, "RunEvents", runArgs{busyWorld(), l}, func(x runArgs) impl.World { return impl.RunEvents(x.World, x.Events) })
		checkMemory(t, "events", runArgs{busyWorld(), l}, func(x runArgs) bool { return impl.IsHonest(x.Events) == (impl.CountKind(x.Events, 8) > 3) })
	}
}
