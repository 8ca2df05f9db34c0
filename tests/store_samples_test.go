package tests

import (
	"math"
	"math/rand"
	"reflect"
	"slices"
	"strconv"
	"strings"
	"testing"

	"loop.example/s01366/impl"
)

// storeOf reads groups, each written as its Parent, a blank and its Sets as entriesOf reads them.
func storeOf(lines ...string) impl.Store {
	var st impl.Store
	for _, line := range lines {
		number, sets, _ := strings.Cut(line, " ")
		parent, err := strconv.Atoi(number)
		if err != nil {
			panic("no group: " + line)
		}
		st.Groups = append(st.Groups, impl.Group{Parent: parent, Sets: entriesOf(sets)})
	}
	return st
}

// smallStore has groups with 0 to MaxLinks links, on several paths; 0 and 8 have the same state, 1 and 6, and 3 and 7.
func smallStore() impl.Store {
	return storeOf(
		"-1 a/=1 b/=2 b/k=3",
		"0 b/= c/=4",
		"1 b/=5 b/k= z/=",
		"2 a/= b/=6",
		"3 a/=7 a/x=8",
		"-1",
		"-1 a/=1 b/k=3 c/=4",
		"5 b/=6 c/=4",
		"0",
	)
}

// fullStore has MaxGroups groups, each with a state of its own, in paths of one more than links groups.
func fullStore(links int) impl.Store {
	var st impl.Store
	for i := range impl.MaxGroups {
		g := impl.Group{Parent: i - 1, Sets: []impl.Entry{entry("n", "", strconv.Itoa(i))}}
		if i%(links+1) == 0 {
			g.Parent = -1
		}
		st.Groups = append(st.Groups, g)
	}
	return st
}

func withGroup(st impl.Store, parent int, sets []impl.Entry) impl.Store {
	return impl.Store{Groups: append(slices.Clone(st.Groups), impl.Group{Parent: parent, Sets: sets})}
}

// badStores are stores that are not valid, each for one reason.
func badStores() map[string]impl.Store {
	full, one := numberedEntries("n", impl.MaxEntries), entriesOf("a/=1")
	stores := map[string]impl.Store{
		"one group too many":                withGroup(fullStore(0), -1, one),
		"one group too many, with a parent": withGroup(fullStore(impl.MaxLinks), 0, one),
		"many groups too many":              {Groups: make([]impl.Group, 3*impl.MaxGroups)},
		"the first is its own parent":       storeOf("0"),
		"the first has a parent behind":     storeOf("1", "-1"),
		"a circle":                          storeOf("1", "0"),
		"a parent below":                    storeOf("-2 a/=1"),
		"a parent behind":                   storeOf("-1 a/=1", "2 b/=1", "-1 c/=1"),
		"one link too many":                 storeOf("-1", "0", "1", "2", "3", "4"),
		"one link too many, scattered":      storeOf("-1", "-1", "0", "1", "2", "4", "-1", "5", "7"),
		"one entry too many by changes":     withGroup(impl.Store{Groups: []impl.Group{{Parent: -1, Sets: full}}}, 0, one),
		"one entry too many in between": {Groups: []impl.Group{
			{Parent: -1, Sets: full}, {Parent: 0, Sets: one}, {Parent: 1, Sets: takenOut(one)}}},
		"one entry too many at the end of a path": {Groups: []impl.Group{
			{Parent: -1, Sets: full[:297]}, {Parent: 0, Sets: full[297:298]}, {Parent: 1, Sets: full[298:299]}, {Parent: 2, Sets: full[299:]}, {Parent: 3, Sets: one}}},
	}
	for _, parent := range []int{math.MinInt, -300, -2, 9, 10, math.MaxInt} {
		stores["parent "+strconv.Itoa(parent)] = withGroup(smallStore(), parent, nil)
	}
	for name, s := range badStates() {
		stores["no state: "+name] = withGroup(smallStore(), -1, s)
		stores["no state at the head: "+name] = withGroup(impl.Store{Groups: []impl.Group{{Parent: -1, Sets: s}}}, -1, nil)
	}
	for name, changes := range badChanges() {
		stores["no changes: "+name] = withGroup(smallStore(), 0, changes)
		stores["no changes within: "+name] = withGroup(withGroup(smallStore(), 5, changes), -1, nil)
	}
	return stores
}

func roomyStore(st impl.Store) impl.Store {
	var groups []impl.Group
	for _, g := range st.Groups {
		groups = append(groups, impl.Group{Parent: g.Parent, Sets: roomyEntries(g.Sets)})
	}
	return impl.Store{Groups: roomy(groups, impl.Group{Parent: -77})}
}

func sameGroup(a, b impl.Group) bool {
	return a.Parent == b.Parent && slices.Equal(a.Sets, b.Sets)
}

func sameStore(a, b impl.Store) bool {
	return slices.EqualFunc(a.Groups, b.Groups, sameGroup)
}

func storeMemory(st impl.Store) ([]impl.Group, [][]impl.Entry) {
	groups := upToCap(st.Groups)
	var sets [][]impl.Entry
	for _, g := range groups {
		sets = append(sets, upToCap(g.Sets))
	}
	return groups, sets
}

// overwriteStore writes over all the memory of an answer and says whether its lists are apart.
func overwriteStore(st impl.Store) bool {
	var lists [][]impl.Entry
	for _, g := range st.Groups {
		lists = append(lists, g.Sets)
	}
	free := apart(lists, markEntry)
	clear(st.Groups[:cap(st.Groups)])
	return free
}

// checkKeptStore calls ask, and says so when the store's memory is not what it was.
func checkKeptStore(t *testing.T, name string, st impl.Store, ask func()) {
	t.Helper()
	groups, sets := storeMemory(st)
	ask()
	groupsNow, setsNow := storeMemory(st)
	if !reflect.DeepEqual(groups, groupsNow) || !reflect.DeepEqual(sets, setsNow) {
		t.Errorf("%s: the given store was written into, or an answer shares its memory", name)
	}
}

// randomStore is valid when its slots are no more than MaxEntries.
func randomStore(random *rand.Rand, slots []impl.Slot, size int) impl.Store {
	var st impl.Store
	for i := range size {
		parent := pick(random, -1, i-1, random.Intn(i+1)-1)
		if parent < 0 || len(pathOf(st, parent)) > impl.MaxLinks {
			st = withGroup(st, -1, randomState(random, slots))
			continue
		}
		st = withGroup(st, parent, randomChanges(random, slots))
	}
	return st
}

// spoiledStore does one thing to a store that may leave it not valid.
func spoiledStore(random *rand.Rand, valid impl.Store) impl.Store {
	st := impl.Store{Groups: slices.Clone(valid.Groups)}
	if len(st.Groups) == 0 {
		return st
	}
	at := random.Intn(len(st.Groups))
	switch random.Intn(3) {
	case 0:
		st.Groups[at].Parent = pick(random, oddNumbers()...)
	case 1:
		st.Groups[at].Parent = at + random.Intn(3) - 2
	case 2:
		st.Groups[at].Sets = spoiledEntries(random, st.Groups[at].Sets)
	}
	return st
}
