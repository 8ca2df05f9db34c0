package tests

import (
	"math"
	"testing"

	"loop.example/s01366/impl"
)

func checkLookup(t *testing.T, name string, given impl.Store, group int, kind, key, want string, visits int, wantOk bool) {
	t.Helper()
	st := roomyStore(given)
	checkKeptStore(t, name, st, func() {
		id, visited, ok := impl.Lookup(st, group, kind, key)
		if id != want || visited != visits || ok != wantOk {
			t.Errorf("%s: Lookup of %q, %q at %d is %q, %d, %v; not %q, %d, %v", name, kind, key, group, id, visited, ok, want, visits, wantOk)
		}
	})
}

// checkPromise9 holds Lookup against Find in Expand, and the number of groups visited against the document.
func checkPromise9(t *testing.T, name string, st impl.Store, group int, slot impl.Slot) {
	t.Helper()
	want, visits, wantOk := wantedLookup(st, group, slot.Type, slot.Key)
	checkLookup(t, name, st, group, slot.Type, slot.Key, want, visits, wantOk)
	s, _ := impl.Expand(st, group)
	found, foundOk := impl.Find(s, slot.Type, slot.Key)
	if found != want || foundOk != wantOk || visits > impl.MaxLinks+1 {
		t.Errorf("%s: Find of %v in Expand of %d is %q, %v; Lookup %q, %d, %v", name, slot, group, found, foundOk, want, visits, wantOk)
	}
}

func TestLookup(t *testing.T) {
	cases := []struct {
		name      string
		group     int
		kind, key string
		want      string
		visits    int
	}{
		{"in the first group", 0, "a", "", "1", 1},
		{"in the first group, behind", 0, "b", "k", "3", 1},
		{"nowhere, one group", 0, "z", "", "", 1},
		{"another key", 0, "a", "x", "", 1},
		{"slots run together", 0, "bk", "", "", 1},
		{"in the group itself", 1, "c", "", "4", 1},
		{"in the parent", 1, "a", "", "1", 2},
		{"taken out in the group itself", 1, "b", "", "", 1},
		{"set again", 2, "b", "", "5", 1},
		{"taken out, never there", 2, "z", "", "", 1},
		{"taken out in the parent, never there", 3, "z", "", "", 2},
		{"taken out on the way", 3, "b", "k", "", 2},
		{"taken out further on the way", 4, "b", "k", "", 3},
		{"set in the parent", 4, "b", "", "6", 2},
		{"set again behind a taking out", 4, "a", "", "7", 1},
		{"at the fourth", 4, "c", "", "4", 4},
		{"nowhere, all groups", 4, "y", "", "", 5},
		{"in an empty group", 5, "a", "", "", 1},
		{"on the other branch", 7, "b", "", "6", 1},
		{"nowhere on the other branch", 7, "a", "", "", 2},
		{"no changes", 8, "b", "k", "3", 2},
		{"no changes, nowhere", 8, "c", "", "", 2},
	}
	for _, c := range cases {
		checkLookup(t, c.name, smallStore(), c.group, c.kind, c.key, c.want, c.visits, c.want != "")
	}
	deep := storeOf("-1 a/=1 b/=1", "0 c/=", "1", "2", "3")
	checkLookup(t, "at the last that may be", deep, 4, "a", "", "1", 5, true)
	checkLookup(t, "taken out behind", deep, 4, "c", "", "", 4, false)
	checkLookup(t, "an empty slot", withGroup(deep, 3, []impl.Entry{entry("", "", "9")}), 5, "", "", "9", 1, true)
	checkLookup(t, "an empty slot, nowhere", deep, 4, "", "", "", 5, false)
}

func TestLookupAtNoGroup(t *testing.T) {
	for _, group := range []int{math.MinInt, -2, -1, 9, 10, math.MaxInt} {
		checkLookup(t, "no group", smallStore(), group, "a", "", "", 0, false)
		checkLookup(t, "no store", impl.Store{}, group, "a", "", "", 0, false)
	}
	checkLookup(t, "no store", impl.Store{}, 0, "a", "", "", 0, false)
}

func TestLookupAtEverySlot(t *testing.T) {
	for group := -1; group <= 9; group++ {
		for _, e := range entriesOf("a/ a/x b/ b/k c/ z/ y/") {
			checkPromise9(t, "small", smallStore(), group, impl.Slot{Type: e.Type, Key: e.Key})
		}
	}
	st := fullStore(impl.MaxLinks)
	for group := 0; group < impl.MaxGroups; group += 37 {
		checkPromise9(t, "full", st, group, impl.Slot{Type: "n"})
		checkPromise9(t, "full, nowhere", st, group, impl.Slot{Type: "m"})
	}
}
