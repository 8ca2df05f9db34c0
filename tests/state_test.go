package tests

import (
	"math/rand"
	"slices"
	"testing"

	"loop.example/s01366/impl"
)

func checkFind(t *testing.T, name string, given []impl.Entry, kind, key, want string, wantOk bool) {
	t.Helper()
	s := roomyEntries(given)
	checkKeptEntries(t, name, [][]impl.Entry{s}, func() []impl.Entry {
		if id, ok := impl.Find(s, kind, key); id != want || ok != wantOk {
			t.Errorf("%s: Find of %q, %q is %q, %v; not %q, %v", name, kind, key, id, ok, want, wantOk)
		}
		return nil
	})
}

func checkPut(t *testing.T, name string, given []impl.Entry, e impl.Entry, want []impl.Entry, wantOk bool) {
	t.Helper()
	s := roomyEntries(given)
	checkKeptEntries(t, name, [][]impl.Entry{s}, func() []impl.Entry {
		got, ok := impl.Put(s, e)
		if ok != wantOk || !slices.Equal(got, want) {
			t.Errorf("%s: Put of %v into %v is %v, %v; not %v, %v", name, e, s, got, ok, want, wantOk)
		}
		return got
	})
}

func checkDelta(t *testing.T, name string, from, to []impl.Entry, want []impl.Entry, wantOk bool) {
	t.Helper()
	a, b := roomyEntries(from), roomyEntries(to)
	checkKeptEntries(t, name, [][]impl.Entry{a, b}, func() []impl.Entry {
		got, ok := impl.Delta(a, b)
		if ok != wantOk || !slices.Equal(got, want) {
			t.Errorf("%s: Delta of %v and %v is %v, %v; not %v, %v", name, a, b, got, ok, want, wantOk)
		}
		return got
	})
}

func checkPatch(t *testing.T, name string, from, by []impl.Entry, want []impl.Entry, wantOk bool) {
	t.Helper()
	a, changes := roomyEntries(from), roomyEntries(by)
	checkKeptEntries(t, name, [][]impl.Entry{a, changes}, func() []impl.Entry {
		got, ok := impl.Patch(a, changes)
		if ok != wantOk || !slices.Equal(got, want) {
			t.Errorf("%s: Patch of %v by %v is %v, %v; not %v, %v", name, a, changes, got, ok, want, wantOk)
		}
		return got
	})
}

// checkStateOk asks StateOk, and all that answers nothing at a list that is no state.
func checkStateOk(t *testing.T, name string, given []impl.Entry, want bool) {
	t.Helper()
	s := roomyEntries(given)
	checkKeptEntries(t, name, [][]impl.Entry{s}, func() []impl.Entry {
		if impl.StateOk(s) != want {
			t.Errorf("%s: StateOk of %v is %v", name, s, !want)
		}
		return nil
	})
	if want {
		return
	}
	for _, e := range s {
		checkFind(t, name, s, e.Type, e.Key, "", false)
		checkPut(t, name, s, entry(e.Type, e.Key, "9"), nil, false)
	}
	checkFind(t, name, s, "zz", "", "", false)
	checkPut(t, name, s, entry("zz", "", "9"), nil, false)
	checkDelta(t, name, s, entriesOf("a/=1"), nil, false)
	checkDelta(t, name, entriesOf("a/=1"), s, nil, false)
	checkDelta(t, name, s, s, nil, false)
	checkPatch(t, name, s, nil, nil, false)
	checkPatch(t, name, s, entriesOf("a/= a/x= b/= c/="), nil, false)
}

func TestStateOk(t *testing.T) {
	full := numberedEntries("n", impl.MaxEntries)
	good := map[string][]impl.Entry{
		"nil":                     nil,
		"empty":                   {},
		"one":                     entriesOf("a/x=1"),
		"keys and types":          entriesOf("a/=1 a/x=2 a/y=3 b/=4 b/x=5"),
		"type before key":         entriesOf("a/b=1 b/a=2"),
		"slots run together":      entriesOf("a/b=1 ab/=2"),
		"low bytes in types":      {entry("a", "z", "1"), entry("a\x00", "a", "2"), entry("a!", "a", "3")},
		"bytes, not letters":      entriesOf("B/=1 a/=2 \xff/=3"),
		"an id several times":     entriesOf("a/=1 b/=1 c/=1"),
		"texts that aren't words": {entry("", "", "-"), entry("", "\x00", " "), entry("a b", "c,d", "=")},
		"one fewer than full":     full[:impl.MaxEntries-1],
		"full":                    full,
	}
	for name, s := range good {
		checkStateOk(t, name, s, true)
	}
	for name, s := range badStates() {
		checkStateOk(t, name, s, false)
	}
}

func TestFind(t *testing.T) {
	s := entriesOf("B/=1 a/x=2 a/y=3 ab/=4 b/=5 b/x=2 b/z=6")
	for _, e := range s {
		checkFind(t, "there", s, e.Type, e.Key, e.Id, true)
	}
	for _, e := range entriesOf("A/ B/x a/ a/b a/xa a/z ab/x b/y b/zz c/ /") {
		checkFind(t, "not there", s, e.Type, e.Key, "", false)
	}
	checkFind(t, "an empty type", s, "", "", "", false)
	checkFind(t, "slots run together", s, "aby", "", "", false)
	checkFind(t, "in the empty state", nil, "", "", "", false)
	checkFind(t, "an empty slot", []impl.Entry{entry("", "", "1")}, "", "", "1", true)
	full := numberedEntries("n", impl.MaxEntries)
	for _, e := range full {
		checkFind(t, "full", full, e.Type, e.Key, e.Id, true)
	}
	checkFind(t, "full", full, "n", "k2000", "", false)
}

func TestPut(t *testing.T) {
	s := entriesOf("a/x=1 b/=2 b/k=3")
	cases := []struct {
		name, s, e, want string
	}{
		{"into the empty state", "", "a/x=1", "a/x=1"},
		{"in front", "a/x=1 b/=2 b/k=3", "a/=9", "a/=9 a/x=1 b/=2 b/k=3"},
		{"within", "a/x=1 b/=2 b/k=3", "b/a=9", "a/x=1 b/=2 b/a=9 b/k=3"},
		{"within, of another type", "a/x=1 b/=2 b/k=3", "ab/=9", "a/x=1 ab/=9 b/=2 b/k=3"},
		{"behind", "a/x=1 b/=2 b/k=3", "b/l=9", "a/x=1 b/=2 b/k=3 b/l=9"},
		{"over the first", "a/x=1 b/=2 b/k=3", "a/x=9", "a/x=9 b/=2 b/k=3"},
		{"over one within", "a/x=1 b/=2 b/k=3", "b/=9", "a/x=1 b/=9 b/k=3"},
		{"over the last", "a/x=1 b/=2 b/k=3", "b/k=9", "a/x=1 b/=2 b/k=9"},
		{"what is there", "a/x=1 b/=2 b/k=3", "b/k=3", "a/x=1 b/=2 b/k=3"},
		{"an id that is elsewhere", "a/x=1 b/=2 b/k=3", "c/=1", "a/x=1 b/=2 b/k=3 c/=1"},
	}
	for _, c := range cases {
		checkPut(t, c.name, entriesOf(c.s), entriesOf(c.e)[0], entriesOf(c.want), true)
	}
	for _, e := range entriesOf("a/x= b/k= a/= z/=") {
		checkPut(t, "an empty id", s, e, nil, false)
	}
	checkPut(t, "an empty id into the empty state", nil, entry("a", "", ""), nil, false)
	checkPut(t, "an empty slot", s, entry("", "", "9"), append([]impl.Entry{entry("", "", "9")}, s...), true)
}

func TestPutIntoFullStates(t *testing.T) {
	full := numberedEntries("n", impl.MaxEntries)
	for i, e := range full {
		e.Id = "new"
		want := slices.Clone(full)
		want[i] = e
		checkPut(t, "a slot that is there", full, e, want, true)
		checkPut(t, "the same again", full, full[i], full, true)
	}
	for _, e := range entriesOf("a/=1 n/=1 n/k1000a=1 n/k2=1 o/=1") {
		checkPut(t, "a slot that is not there", full, e, nil, false)
	}
	last := impl.MaxEntries - 1
	checkPut(t, "the last that has room", full[:last], full[last], full, true)
	checkPut(t, "the first that has room", full[1:], full[0], full, true)
}

func TestDelta(t *testing.T) {
	cases := []struct {
		name, a, b, want string
	}{
		{"of nothing", "", "", ""},
		{"from nothing", "", "a/x=1 b/=2", "a/x=1 b/=2"},
		{"to nothing", "a/x=1 b/=2", "", "a/x= b/="},
		{"the same", "a/x=1 b/=2", "a/x=1 b/=2", ""},
		{"another id", "a/x=1 b/=2 c/=3", "a/x=1 b/=9 c/=3", "b/=9"},
		{"every id another", "a/x=1 b/=2", "a/x=2 b/=1", "a/x=2 b/=1"},
		{"one more", "a/x=1 c/=3", "a/x=1 b/=2 c/=3", "b/=2"},
		{"one fewer", "a/x=1 b/=2 c/=3", "a/x=1 c/=3", "b/="},
		{"of all kinds", "a/x=1 b/=2 b/k=3 d/=4", "a/=5 a/x=1 b/=7 c/=8 d/=4", "a/=5 b/=7 b/k= c/=8"},
		{"no slot in both", "a/=1 c/=1 e/=1", "b/=1 d/=1 f/=1", "a/= b/=1 c/= d/=1 e/= f/=1"},
		{"types like keys", "a/b=1 b/a=2", "a/b=2 b/a=1", "a/b=2 b/a=1"},
	}
	for _, c := range cases {
		checkDelta(t, c.name, entriesOf(c.a), entriesOf(c.b), entriesOf(c.want), true)
		checkPatch(t, c.name, entriesOf(c.a), entriesOf(c.want), entriesOf(c.b), true)
	}
}

func TestDeltaOfFullStates(t *testing.T) {
	a, b := numberedEntries("a", impl.MaxEntries), numberedEntries("b", impl.MaxEntries)
	apartChanges := append(takenOut(a), b...)
	checkDelta(t, "full, no slot in both", a, b, apartChanges, true)
	checkPatch(t, "full, no slot in both", a, apartChanges, b, true)
	backChanges := append(slices.Clone(a), takenOut(b)...)
	checkDelta(t, "full, back", b, a, backChanges, true)
	checkPatch(t, "full, back", b, backChanges, a, true)
	checkDelta(t, "full, the same", a, a, nil, true)
}

func TestPatch(t *testing.T) {
	cases := []struct {
		name, a, changes, want string
	}{
		{"of nothing", "", "", ""},
		{"by nothing", "a/x=1 b/=2", "", "a/x=1 b/=2"},
		{"one set", "a/x=1 b/=2", "a/y=3", "a/x=1 a/y=3 b/=2"},
		{"one set over", "a/x=1 b/=2", "a/x=3", "a/x=3 b/=2"},
		{"set to what it is", "a/x=1 b/=2", "a/x=1 b/=2", "a/x=1 b/=2"},
		{"the first taken out", "a/x=1 b/=2 c/=3", "a/x=", "b/=2 c/=3"},
		{"one within taken out", "a/x=1 b/=2 c/=3", "b/=", "a/x=1 c/=3"},
		{"the last taken out", "a/x=1 b/=2 c/=3", "c/=", "a/x=1 b/=2"},
		{"all taken out", "a/x=1 b/=2", "a/x= b/=", ""},
		{"what is not there taken out", "a/x=1 b/=2", "a/= a/y= b/x= z/=", "a/x=1 b/=2"},
		{"taken out of nothing", "", "a/= b/=", ""},
		{"of all kinds", "a/x=1 b/=2 b/k=3 d/=4", "a/=5 b/=7 b/k= b/l= c/=8", "a/=5 a/x=1 b/=7 c/=8 d/=4"},
	}
	for _, c := range cases {
		checkPatch(t, c.name, entriesOf(c.a), entriesOf(c.changes), entriesOf(c.want), true)
	}
	for name, changes := range badChanges() {
		checkPatch(t, name, nil, changes, nil, false)
		checkPatch(t, name, entriesOf("a/x=1 b/=2"), changes, nil, false)
		for bad, s := range badStates() {
			checkPatch(t, bad+", "+name, s, changes, nil, false)
		}
	}
}

func TestManyChanges(t *testing.T) {
	some := entriesOf("a/x=1 b/=2")
	most := numberedEntries("n", 2*impl.MaxEntries)
	checkPatch(t, "as many as there may be, taken out", some, takenOut(most), some, true)
	checkPatch(t, "half of them set", nil, append(takenOut(most[:impl.MaxEntries]), most[impl.MaxEntries:]...), most[impl.MaxEntries:], true)
	checkPatch(t, "one too many set", nil, append(takenOut(most[1:impl.MaxEntries]), most[impl.MaxEntries-1:]...), nil, false)
	checkPatch(t, "all set", nil, most, nil, false)
	full := most[:impl.MaxEntries]
	checkPatch(t, "full, set to what it is", full, full, full, true)
	checkPatch(t, "one more", full, most[impl.MaxEntries:impl.MaxEntries+1], nil, false)
	checkPatch(t, "one more in front", full, entriesOf("a/=1"), nil, false)
	checkPatch(t, "one more and one taken out that is not there", full, entriesOf("a/=1 b/="), nil, false)
	checkPatch(t, "one more in front of one fewer", full, entriesOf("a/=1 n/k1000="), append(entriesOf("a/=1"), full[1:]...), true)
	checkPatch(t, "one more behind one fewer", full, entriesOf("n/k1000= o/=1"), append(slices.Clone(full[1:]), entriesOf("o/=1")...), true)
	checkPatch(t, "two more and one fewer", full, entriesOf("a/=1 n/k1000= o/=1"), nil, false)
	checkPatch(t, "full from nothing", nil, full, full, true)
	checkPatch(t, "one too many from nothing", nil, most[:impl.MaxEntries+1], nil, false)
}

// checkPromise7 holds Put, Find, Delta and Patch against each other at two states.
func checkPromise7(t *testing.T, a, b []impl.Entry, e impl.Entry) {
	t.Helper()
	if s, ok := impl.Put(a, e); ok {
		if id, found := impl.Find(s, e.Type, e.Key); !found || id != e.Id {
			t.Errorf("%v put into %v: Find says %q, %v", e, a, id, found)
		}
		for _, other := range slices.Concat(a, s, b) {
			was, wasOk := impl.Find(a, other.Type, other.Key)
			is, isOk := impl.Find(s, other.Type, other.Key)
			if !sameSlot(other, e) && (was != is || wasOk != isOk) {
				t.Errorf("%v put into %v: %v was %q, %v and is %q, %v", e, a, other, was, wasOk, is, isOk)
			}
		}
	}
	changes, ok := impl.Delta(a, b)
	back, patched := impl.Patch(a, changes)
	if !ok || !patched || !slices.Equal(back, b) {
		t.Errorf("%v by %v is %v, %v; not %v", a, changes, back, patched, b)
	}
	for i := range changes {
		less := slices.Delete(slices.Clone(changes), i, i+1)
		if s, _ := impl.Patch(a, less); slices.Equal(s, b) {
			t.Errorf("from %v to %v: %v could be left out", a, b, changes[i])
		}
	}
}

func checkRandomStates(t *testing.T, random *rand.Rand, slots []impl.Slot) {
	t.Helper()
	a, b, changes := randomState(random, slots), randomState(random, slots), randomChanges(random, slots)
	if random.Intn(2) == 0 {
		b, _ = impl.Patch(a, randomEntries(random, slots, 3, "1", ""))
	}
	slot := pick(random, slots...)
	e := entry(slot.Type, slot.Key, pick(random, "1", "2", "4", ""))
	checkPromise7(t, a, b, e)
	for range random.Intn(3) {
		switch random.Intn(3) {
		case 0:
			a = spoiledEntries(random, a)
		case 1:
			b = spoiledEntries(random, b)
		case 2:
			changes = spoiledEntries(random, changes)
		}
	}
	if got, want := impl.StateOk(a), wantedStateOk(a); got != want {
		t.Errorf("StateOk of %v is %v", a, got)
	}
	wantId, wantOk := wantedFind(a, slot.Type, slot.Key)
	checkFind(t, "random", a, slot.Type, slot.Key, wantId, wantOk)
	want, wantOk := wantedPut(a, e)
	checkPut(t, "random", a, e, want, wantOk)
	want, wantOk = wantedDelta(a, b)
	checkDelta(t, "random", a, b, want, wantOk)
	want, wantOk = wantedPatch(a, changes)
	checkPatch(t, "random", a, changes, want, wantOk)
}

func TestRandomStates(t *testing.T) {
	random := rand.New(rand.NewSource(12))
	for range 4000 {
		checkRandomStates(t, random, fewSlots())
	}
}

func TestBigRandomStates(t *testing.T) {
	random := rand.New(rand.NewSource(13))
	for range 30 {
		checkRandomStates(t, random, manySlots())
		checkRandomStates(t, random, manySlots()[:impl.MaxEntries+1])
	}
}
