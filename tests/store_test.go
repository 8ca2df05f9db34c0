package tests

import (
	"math"
	"math/rand"
	"slices"
	"strconv"
	"testing"

	"loop.example/s01366/impl"
)

func checkStoreOk(t *testing.T, name string, given impl.Store, want bool) {
	t.Helper()
	st := roomyStore(given)
	checkKeptStore(t, name, st, func() {
		if impl.StoreOk(st) != want {
			t.Errorf("%s: StoreOk is %v", name, !want)
		}
	})
}

// checkSave holds Save's answer and the memory of all lists against what is wanted, and promise 8 against the answer.
func checkSave(t *testing.T, name string, given impl.Store, state []impl.Entry, near int, want impl.Store, number int) {
	t.Helper()
	st, s := roomyStore(given), roomyEntries(state)
	checkKeptStore(t, name, st, func() {
		checkKeptEntries(t, name, [][]impl.Entry{s}, func() []impl.Entry {
			got, group := impl.Save(st, s, near)
			if group != number || !sameStore(got, want) {
				t.Errorf("%s: Save near %d gives group %d, not %d; store %v, not %v", name, near, group, number, got, want)
			}
			if group >= 0 {
				checkPromise8(t, name, st, s, got, group)
			}
			if !overwriteStore(got) {
				t.Errorf("%s: two lists of the store share memory", name)
			}
			return nil
		})
	})
}

func checkPromise8(t *testing.T, name string, before impl.Store, s []impl.Entry, after impl.Store, group int) {
	t.Helper()
	if !impl.StoreOk(after) {
		t.Errorf("%s: the store is not valid any more", name)
	}
	if saved, ok := impl.Expand(after, group); !ok || !slices.Equal(saved, s) {
		t.Errorf("%s: saved %v, and Expand gives %v, %v", name, s, saved, ok)
	}
	// Every group of a store with many of them would take too long.
	for i := 0; i < len(before.Groups); i += 1 + len(before.Groups)/20 {
		was, wasOk := impl.Expand(before, i)
		is, isOk := impl.Expand(after, i)
		if !wasOk || !isOk || !slices.Equal(was, is) {
			t.Errorf("%s: group %d was %v, %v and is %v, %v", name, i, was, wasOk, is, isOk)
		}
	}
}

func checkExpand(t *testing.T, name string, given impl.Store, group int, want []impl.Entry, wantOk bool) {
	t.Helper()
	st := roomyStore(given)
	checkKeptStore(t, name, st, func() {
		got, ok := impl.Expand(st, group)
		if ok != wantOk || !slices.Equal(got, want) {
			t.Errorf("%s: Expand of %d is %v, %v; not %v, %v", name, group, got, ok, want, wantOk)
		}
		apart([][]impl.Entry{got}, markEntry)
	})
}

func TestStoreOk(t *testing.T) {
	full, one := numberedEntries("n", impl.MaxEntries), entriesOf("a/=1")
	base := impl.Store{Groups: []impl.Group{{Parent: -1, Sets: full}}}
	good := map[string]impl.Store{
		"nothing":                     {},
		"an empty group":              storeOf("-1"),
		"small":                       smallStore(),
		"as many groups as there may": fullStore(0),
		"and as many links":           fullStore(impl.MaxLinks),
		"as many empty groups":        {Groups: slices.Repeat([]impl.Group{{Parent: -1}}, impl.MaxGroups)},
		"scattered links":             storeOf("-1", "-1", "0", "1", "2", "4", "-1", "5"),
		"a full state":                base,
		"full and changed":            withGroup(base, 0, full),
		"full and one for another":    withGroup(base, 0, entriesOf("a/=1 n/k1000=")),
		"full and another for one":    withGroup(base, 0, entriesOf("n/k1000= o/=1")),
		"full and taken out":          withGroup(base, 0, takenOut(full)),
		"full and none taken out":     withGroup(base, 0, takenOut(one)),
		"as many changes as may be":   withGroup(base, 0, append(takenOut(full), numberedEntries("o", impl.MaxEntries)...)),
		"changes of what is not":      withGroup(base, 0, takenOut(numberedEntries("o", 2*impl.MaxEntries))),
		"one path above another":      withGroup(withGroup(base, -1, nil), 1, full),
	}
	for name, st := range good {
		checkStoreOk(t, name, st, true)
	}
	for name, st := range badStores() {
		checkStoreOk(t, name, st, false)
	}
}

func TestBadStores(t *testing.T) {
	for name, st := range badStores() {
		for _, group := range append(oddNumbers(), len(st.Groups)-1) {
			checkExpand(t, name, st, group, nil, false)
			checkLookup(t, name, st, group, "a", "", "", 0, false)
		}
		for _, near := range []int{-1, 0, len(st.Groups) - 1} {
			checkSave(t, name, st, entriesOf("a/=1"), near, impl.Store{}, -1)
			checkSave(t, name, st, entriesOf("new/=1"), near, impl.Store{}, -1)
			checkSave(t, name, st, nil, near, impl.Store{}, -1)
		}
	}
}

func TestSaveKnownStates(t *testing.T) {
	st := smallStore()
	firsts := map[string]int{"a/=1 b/=2 b/k=3": 0, "a/=1 b/k=3 c/=4": 1, "a/=1 b/=5 c/=4": 2, "b/=6 c/=4": 3, "a/=7 a/x=8 b/=6 c/=4": 4, "": 5}
	for text, first := range firsts {
		for _, near := range append(oddNumbers(), 6, 7, 8, 9) {
			checkSave(t, "known: "+text, st, entriesOf(text), near, st, first)
		}
	}
	again := storeOf("-1 a/=1", "0 b/=1", "0 a/=1", "-1 a/=1", "1 b/=", "-1", "5 a/=1")
	for _, near := range []int{-1, 0, 1, 2, 3, 4, 5, 6} {
		checkSave(t, "several with the state", again, entriesOf("a/=1"), near, again, 0)
	}
	checkSave(t, "in front of near", storeOf("-1 x/=1", "-1 a/=1", "-1 a/=1"), entriesOf("a/=1"), 2, storeOf("-1 x/=1", "-1 a/=1", "-1 a/=1"), 1)
}

// TestSaveLikeStates has states that are nearly those of groups.
func TestSaveLikeStates(t *testing.T) {
	st := storeOf("-1 a/=1 b/x=2", "0 c/=3")
	for _, text := range []string{"", "a/=1", "b/x=2", "a/=1 b/x=3", "a/=2 b/x=2", "a/=1 b/y=2", "a/=1 bx/=2", "a/=1 b/x=2 d/=3", "a/=1 c/=3", "b/x=2 c/=3", "a/=1 b/x=2 c/=3 d/=4"} {
		s := entriesOf(text)
		for near := -1; near <= 2; near++ {
			want, number := wantedSave(st, s, near)
			if number != 2 {
				t.Fatalf("%q is known", text)
			}
			checkSave(t, "like: "+text, st, s, near, want, number)
		}
	}
}

func TestSaveNewStates(t *testing.T) {
	s := entriesOf("a/=1 c/=4 d/=9")
	changes := map[int]string{
		0: "b/= b/k= c/=4 d/=9",
		1: "b/k= d/=9",
		2: "b/= d/=9",
		3: "a/=1 b/= d/=9",
		5: "a/=1 c/=4 d/=9",
		6: "b/k= d/=9",
		7: "a/=1 b/= d/=9",
		8: "b/= b/k= c/=4 d/=9",
	}
	for near, sets := range changes {
		checkSave(t, "near "+strconv.Itoa(near), smallStore(), s, near, withGroup(smallStore(), near, entriesOf(sets)), 9)
	}
	for _, near := range []int{4, -1, -2, 9, 10, math.MinInt, math.MaxInt} {
		checkSave(t, "not near, "+strconv.Itoa(near), smallStore(), s, near, withGroup(smallStore(), -1, s), 9)
	}
	for _, near := range oddNumbers() {
		checkSave(t, "the first", impl.Store{}, s, near, withGroup(impl.Store{}, -1, s), 0)
		checkSave(t, "the first, empty", impl.Store{}, nil, near, withGroup(impl.Store{}, -1, nil), 0)
	}
	checkSave(t, "all taken out", storeOf("-1 a/=1 b/=2"), nil, 0, storeOf("-1 a/=1 b/=2", "0 a/= b/="), 1)
	a, b := numberedEntries("a", impl.MaxEntries), numberedEntries("b", impl.MaxEntries)
	st := impl.Store{Groups: []impl.Group{{Parent: -1, Sets: a}}}
	checkSave(t, "full states", st, b, 0, withGroup(st, 0, append(takenOut(a), b...)), 1)
	checkSave(t, "full states, not near", st, b, -1, withGroup(st, -1, b), 1)
	for name, bad := range badStates() {
		for _, near := range []int{-1, 0, 4} {
			checkSave(t, "no state: "+name, smallStore(), bad, near, impl.Store{}, -1)
			checkSave(t, "no state: "+name, impl.Store{}, bad, near, impl.Store{}, -1)
		}
	}
}

func TestSaveIntoFullStores(t *testing.T) {
	st := fullStore(impl.MaxLinks)
	last := impl.MaxGroups - 1
	for _, near := range []int{-1, 0, last} {
		checkSave(t, "new", st, entriesOf("a/=1"), near, impl.Store{}, -1)
		checkSave(t, "empty", st, nil, near, impl.Store{}, -1)
		checkSave(t, "the first", st, entriesOf("n/=0"), near, st, 0)
		checkSave(t, "the last", st, entriesOf("n/="+strconv.Itoa(last)), near, st, last)
	}
	less := impl.Store{Groups: st.Groups[:last]}
	checkSave(t, "one fewer", less, entriesOf("a/=1"), -1, withGroup(less, -1, entriesOf("a/=1")), last)
	checkSave(t, "one fewer, near", less, entriesOf("a/=1"), last-1, withGroup(less, last-1, entriesOf("a/=1 n/=")), last)
	checkSave(t, "one fewer, near with as many links as may be", less, entriesOf("a/=1"), last-5, withGroup(less, -1, entriesOf("a/=1")), last)
}

func TestExpand(t *testing.T) {
	wants := []string{
		"a/=1 b/=2 b/k=3",
		"a/=1 b/k=3 c/=4",
		"a/=1 b/=5 c/=4",
		"b/=6 c/=4",
		"a/=7 a/x=8 b/=6 c/=4",
		"",
		"a/=1 b/k=3 c/=4",
		"b/=6 c/=4",
		"a/=1 b/=2 b/k=3",
	}
	for group, want := range wants {
		checkExpand(t, "small", smallStore(), group, entriesOf(want), true)
	}
	for _, group := range []int{math.MinInt, -2, -1, 9, 10, math.MaxInt} {
		checkExpand(t, "no group", smallStore(), group, nil, false)
		checkExpand(t, "no store", impl.Store{}, group, nil, false)
	}
	checkExpand(t, "no store", impl.Store{}, 0, nil, false)
	checkExpand(t, "set again", storeOf("-1 a/=1", "0 a/=", "1 a/=2", "2 a/=", "3 a/=1"), 4, entriesOf("a/=1"), true)
	checkExpand(t, "taken out again", storeOf("-1 a/=1", "0 a/=", "1 a/=2", "2 a/="), 3, nil, true)
}

func checkRandomStore(t *testing.T, random *rand.Rand, st impl.Store, slots []impl.Slot) {
	t.Helper()
	ok := wantedStoreOk(st)
	checkStoreOk(t, "random", st, ok)
	groups := []int{-1, len(st.Groups), pick(random, oddNumbers()...)}
	for group := range st.Groups {
		groups = append(groups, group)
	}
	for _, group := range groups {
		want, wantOk := wantedExpand(st, group)
		checkExpand(t, "random", st, group, want, wantOk)
		for _, slot := range slots {
			checkPromise9(t, "random", st, group, slot)
		}
	}
	for range 4 {
		s := randomState(random, slots)
		if known := pick(random, groups...); ok && hasGroup(st, known) {
			s = afterChanges(wantedState(st, known), randomEntries(random, slots, random.Intn(3), "1", ""))
		}
		if random.Intn(4) == 0 {
			s = spoiledEntries(random, s)
		}
		near := pick(random, groups...)
		want, number := wantedSave(st, s, near)
		checkSave(t, "random", st, s, near, want, number)
	}
}

func TestRandomStores(t *testing.T) {
	random := rand.New(rand.NewSource(14))
	for range 150 {
		slots := fewSlots()[:pick(random, 1, 2, 4, 20)]
		st := randomStore(random, slots, random.Intn(12))
		checkRandomStore(t, random, st, slots)
		checkRandomStore(t, random, spoiledStore(random, st), slots)
	}
}

// TestBigRandomStores has states around MaxEntries, so that some stores have a state with one entry too many.
func TestBigRandomStores(t *testing.T) {
	random := rand.New(rand.NewSource(15))
	slots := manySlots()
	good, bad := 0, 0
	for range 60 {
		st := impl.Store{Groups: []impl.Group{{Parent: -1, Sets: randomEntries(random, slots, impl.MaxEntries-random.Intn(12), "1", "2")}}}
		for i := range impl.MaxLinks {
			st = withGroup(st, i, randomEntries(random, slots, random.Intn(8), "1", "2", ""))
		}
		ok := wantedStoreOk(st)
		checkStoreOk(t, "big", st, ok)
		for group := range st.Groups {
			want, wantOk := wantedExpand(st, group)
			checkExpand(t, "big", st, group, want, wantOk)
		}
		s := randomEntries(random, slots, impl.MaxEntries+random.Intn(2), "1")
		want, number := wantedSave(st, s, 2)
		checkSave(t, "big", st, s, 2, want, number)
		if ok {
			good++
		} else {
			bad++
		}
	}
	if good < 10 || bad < 10 {
		t.Errorf("too few stores of one kind: %d, %d", good, bad)
	}
}

// TestSavedStores builds stores by Save alone, as the engine does, until they are full.
func TestSavedStores(t *testing.T) {
	random := rand.New(rand.NewSource(16))
	slots := fewSlots()
	var st impl.Store
	var saved [][]impl.Entry
	var s []impl.Entry
	near := -1
	for len(saved) < impl.MaxGroups {
		s, _ = impl.Put(s, randomEntries(random, slots, 1, strconv.Itoa(random.Intn(9)+1))[0])
		next, group := impl.Save(st, s, near)
		if group < 0 || group > len(saved) || !impl.StoreOk(next) {
			t.Fatalf("save %d gave %d", len(saved), group)
		}
		if group == len(saved) {
			saved = append(saved, s)
		}
		if !slices.Equal(saved[group], s) {
			t.Fatalf("group %d has %v, not %v", group, saved[group], s)
		}
		st, near = next, group
	}
	for group, want := range saved {
		if got, ok := impl.Expand(st, group); !ok || !slices.Equal(got, want) {
			t.Fatalf("group %d has %v, %v, not %v", group, got, ok, want)
		}
	}
	checkSave(t, "full at last", st, entriesOf("new/=1"), near, impl.Store{}, -1)
}
