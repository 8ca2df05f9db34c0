package tests

import (
	"math/rand"
	"reflect"
	"slices"
	"strings"
	"sync"
	"testing"

	"loop.example/s01366/impl"
)

// checkChain holds AuthChain's answer and code, and its memory, against what is wanted.
func checkChain(t *testing.T, name string, r impl.Room, ids []string, want []string, code int) {
	t.Helper()
	room, given := roomyRoom(r), roomy(ids, "behind")
	before := upToCap(given)
	checkKept(t, name, room, func() {
		got, gotCode := impl.AuthChain(room, given)
		if gotCode != code || !slices.Equal(got, want) {
			t.Errorf("%s: AuthChain of %q is %q, %d; not %q, %d", name, ids, got, gotCode, want, code)
		}
		apart([][]string{got}, markText)
	})
	if !slices.Equal(before, upToCap(given)) {
		t.Errorf("%s: the given ids were written into", name)
	}
}

func checkDiff(t *testing.T, name string, r impl.Room, sets [][]string, want []string, code int) {
	t.Helper()
	room, given := roomyRoom(r), roomySets(sets)
	before := memoryOfSets(given)
	checkKept(t, name, room, func() {
		got, gotCode := impl.AuthDiff(room, given)
		if gotCode != code || !slices.Equal(got, want) {
			t.Errorf("%s: AuthDiff of %q is %q, %d; not %q, %d", name, sets, got, gotCode, want, code)
		}
		apart([][]string{got}, markText)
	})
	if !reflect.DeepEqual(before, memoryOfSets(given)) {
		t.Errorf("%s: the given sets were written into", name)
	}
}

func roomySets(sets [][]string) [][]string {
	var out [][]string
	for _, ids := range sets {
		out = append(out, roomy(ids, "behind"))
	}
	return roomy(out, []string{"behind"})
}

func memoryOfSets(sets [][]string) [][]string {
	out := upToCap(sets)
	for i, ids := range out {
		out[i] = upToCap(ids)
	}
	return out
}

func checkTips(t *testing.T, name string, r impl.Room, want []string, code int) {
	t.Helper()
	room := roomyRoom(r)
	checkKept(t, name, room, func() {
		got, gotCode := impl.Tips(room)
		if gotCode != code || !slices.Equal(got, want) {
			t.Errorf("%s: Tips is %q, %d; not %q, %d", name, got, gotCode, want, code)
		}
		apart([][]string{got}, markText)
	})
}

// idList cuts a list at its blanks; the text with no byte is no id.
func idList(text string) []string {
	return strings.Fields(text)
}

func TestAuthChain(t *testing.T) {
	cases := []struct{ ids, want string }{
		{"", ""},
		{"$c", ""},
		{"$a", "$c"},
		{"$p", "$a $c"},
		{"$p $a", "$a $c"},
		{"$c $p", "$a $c"},
		{"$a $c", "$c"},
		{"$b2", "$a $c $p"},
		{"$b1", "$a $b2 $c $p"},
		{"$b1 $b2", "$a $b2 $c $p"},
		{"$x", "$c"},
		{"$j", "$a $c $p $x"},
		{"$j $x", "$a $c $p $x"},
		{"$s", "$c"},
		{"$s $s", "$c"},
		{"$s $x", "$c"},
		{"$b1 $j $s", "$a $b2 $c $p $x"},
		{"$c $c $c", ""},
	}
	for _, c := range cases {
		checkChain(t, "forked", forkedRoom(), idList(c.ids), idList(c.want), 0)
	}
	checkChain(t, "empty room", impl.Room{}, nil, nil, 0)
	checkChain(t, "empty room", impl.Room{}, []string{}, nil, 0)
	checkChain(t, "empty room", impl.Room{}, []string{"$c"}, nil, 2)
	for _, ids := range []string{"$zz", "$zz $c", "$c $zz", "$C", "c", "$c, $a"} {
		checkChain(t, "unknown", forkedRoom(), idList(ids), nil, 2)
	}
	checkChain(t, "the empty id", forkedRoom(), []string{""}, nil, 2)
	checkChain(t, "two ids in one", forkedRoom(), []string{"$c $a"}, nil, 2)
}

func TestManyIds(t *testing.T) {
	full := slices.Repeat([]string{"$b1"}, impl.MaxEvents)
	over := append(full, "$b1")
	want := idList("$a $b2 $c $p")
	checkChain(t, "as many as there may be", forkedRoom(), full, want, 0)
	checkChain(t, "one too many", forkedRoom(), over, nil, 2)
	checkChain(t, "far too many", forkedRoom(), slices.Repeat(over, 50), nil, 2)
	checkDiff(t, "as many as there may be", forkedRoom(), [][]string{full, nil}, idList("$a $b1 $b2 $c $p"), 0)
	checkDiff(t, "one too many", forkedRoom(), [][]string{over}, nil, 3)
	checkDiff(t, "one too many in the last", forkedRoom(), [][]string{nil, full, over}, nil, 3)
	line := lineRoom(impl.MaxEvents)
	all := idsOf(line)
	sorted := slices.Sorted(slices.Values(all))
	checkChain(t, "all of a full room", line, all, slices.Sorted(slices.Values(all[:impl.MaxEvents-1])), 0)
	checkChain(t, "the last of a full room", line, all[impl.MaxEvents-1:], slices.Sorted(slices.Values(all[:impl.MaxEvents-1])), 0)
	checkChain(t, "all and one more", line, append(all, "$c"), nil, 2)
	checkDiff(t, "all of a full room", line, [][]string{all, {}}, sorted, 0)
	checkDiff(t, "the last of a full room", line, [][]string{all[impl.MaxEvents-1:], all[:1]}, slices.Sorted(slices.Values(all[1:])), 0)
}

func TestAuthDiff(t *testing.T) {
	cases := []struct {
		sets []string
		want string
	}{
		{nil, ""},
		{[]string{""}, ""},
		{[]string{"", ""}, ""},
		{[]string{"$b1 $s"}, ""},
		{[]string{"$b1", "$b1"}, ""},
		{[]string{"$b1", "$b2 $b1"}, ""},
		{[]string{"$b1", "$b2"}, "$b1"},
		{[]string{"$b1", "$p"}, "$b1 $b2"},
		{[]string{"$b1", "$c"}, "$a $b1 $b2 $p"},
		{[]string{"$b1", ""}, "$a $b1 $b2 $c $p"},
		{[]string{"", "$c"}, "$c"},
		{[]string{"$c", "$a"}, "$a"},
		{[]string{"$x", "$s"}, "$s $x"},
		{[]string{"$x", "$s", "$x $s"}, "$s $x"},
		{[]string{"$x", "$x", "$x $s"}, "$s"},
		{[]string{"$j", "$b1"}, "$b1 $b2 $j $x"},
		{[]string{"$j", "$b1", "$j $b1"}, "$b1 $b2 $j $x"},
		{[]string{"$j", "$b1", ""}, "$a $b1 $b2 $c $j $p $x"},
		{[]string{"$j", "$b1", "$x"}, "$a $b1 $b2 $j $p $x"},
		{[]string{"$j $j", "$x $j"}, ""},
	}
	for _, c := range cases {
		var sets [][]string
		for _, ids := range c.sets {
			sets = append(sets, idList(ids))
		}
		checkDiff(t, "forked", forkedRoom(), sets, idList(c.want), 0)
		slices.Reverse(sets)
		checkDiff(t, "forked, the other way round", forkedRoom(), sets, idList(c.want), 0)
	}
	checkDiff(t, "empty room", impl.Room{}, nil, nil, 0)
	checkDiff(t, "empty room", impl.Room{}, [][]string{nil, {}}, nil, 0)
	checkDiff(t, "empty room", impl.Room{}, [][]string{{"$c"}}, nil, 3)
	checkDiff(t, "unknown first", forkedRoom(), [][]string{{"$zz", "$c"}, {"$c"}}, nil, 3)
	checkDiff(t, "unknown last", forkedRoom(), [][]string{{"$c"}, {}, {"$c", "$zz"}}, nil, 3)
	checkDiff(t, "the empty id", forkedRoom(), [][]string{{""}}, nil, 3)
}

func TestManySets(t *testing.T) {
	full := slices.Repeat([][]string{{"$b1"}}, impl.MaxSets)
	checkDiff(t, "as many as there may be", forkedRoom(), full, nil, 0)
	last := slices.Clone(full)
	last[impl.MaxSets-1] = []string{"$b2"}
	checkDiff(t, "the last is another", forkedRoom(), last, []string{"$b1"}, 0)
	over := append(full, []string{"$b1"})
	checkDiff(t, "one too many", forkedRoom(), over, nil, 2)
	checkDiff(t, "one too many and empty", forkedRoom(), make([][]string, impl.MaxSets+1), nil, 2)
	checkDiff(t, "one too many and empty, in the empty room", impl.Room{}, make([][]string, impl.MaxSets+1), nil, 2)
	checkDiff(t, "many too many", forkedRoom(), slices.Repeat(full, 100), nil, 2)
	over[0] = []string{"$zz"}
	checkDiff(t, "one too many and unknown", forkedRoom(), over, nil, 2)
	over[0] = slices.Repeat([]string{"$c"}, impl.MaxEvents+1)
	checkDiff(t, "one too many and too long", forkedRoom(), over, nil, 2)
	checkDiff(t, "too long", forkedRoom(), over[:impl.MaxSets], nil, 3)
}

func TestTips(t *testing.T) {
	wants := []string{"", "$c", "$a", "$p", "$b2", "$b2 $x", "$b1 $x", "$j", "$j $s"}
	for size, want := range wants {
		checkTips(t, "first part", impl.Room{Events: forkedRoom().Events[:size]}, idList(want), 0)
	}
	checkTips(t, "line", lineRoom(impl.MaxEvents), []string{"$n299"}, 0)
	// What stands in an Auth alone is a tip.
	rested := roomOf("$c @a create = 1 - - -", "$b @a msg - 1 $c $c -", "$a @a msg - 1 $c $b -", "$z @a msg - 1 $c $a,$b -")
	checkTips(t, "rested on", rested, idList("$a $b $z"), 0)
	star := createOnly()
	for _, id := range numbered("$", impl.MaxEvents-1) {
		star.Events = append(star.Events, impl.Event{Id: id, Sender: "@a", Type: "msg", Prev: []string{"$c"}, Auth: []string{"$c"}})
	}
	checkTips(t, "star", star, numbered("$", impl.MaxEvents-1), 0)
}

func TestChainsOfBadRooms(t *testing.T) {
	unknown := []string{"$zz"}
	long := slices.Repeat([]string{"$c"}, impl.MaxEvents+1)
	for name, room := range badRooms() {
		checkTips(t, name, room, nil, 1)
		for _, ids := range [][]string{nil, {"$c"}, unknown, long, idsOf(room)} {
			checkChain(t, name, room, ids, nil, 1)
		}
		for _, sets := range [][][]string{nil, {nil}, {{"$c"}, {"$a"}}, {unknown}, {long}, make([][]string, impl.MaxSets+1), slices.Repeat([][]string{unknown}, impl.MaxSets+1)} {
			checkDiff(t, name, room, sets, nil, 1)
		}
	}
}

// TestRandomChains holds promise 3 at rooms and arguments of all makes, and promise 4 at the valid ones.
func TestRandomChains(t *testing.T) {
	random := rand.New(rand.NewSource(5))
	var chainCodes, diffCodes [4]int
	for range 2500 {
		room := randomRoom(random, 2+random.Intn(pick(random, 5, 20)))
		if random.Intn(4) == 0 {
			room = spoiledRoom(random, room)
		}
		ids, sets := randomIds(random, room), randomSets(random, room)
		switch random.Intn(12) {
		case 0:
			ids, sets = append(ids, "$zz"), append(sets, []string{"$zz"})
		case 1:
			ids, sets = append(ids, make([]string, impl.MaxEvents)...), append(sets, make([][]string, impl.MaxSets)...)
		}
		code := wantedChainCode(room, ids)
		chainCodes[code]++
		diffCode := wantedDiffCode(room, sets)
		diffCodes[diffCode]++
		var chain, diff, tips []string
		if code == 0 {
			chain = sortedKeys(wantedChain(room, ids))
		}
		if diffCode == 0 {
			diff = wantedDiff(room, sets)
		}
		tipCode := 1
		if wantedRoomOk(room) {
			tips, tipCode = wantedTips(room), 0
		}
		checkChain(t, "random", room, ids, chain, code)
		checkDiff(t, "random", room, sets, diff, diffCode)
		checkTips(t, "random", room, tips, tipCode)
		if tipCode == 0 {
			other := reordered(random, room)
			checkChain(t, "another order", other, ids, chain, code)
			checkDiff(t, "another order", other, sets, diff, diffCode)
			checkTips(t, "another order", other, tips, 0)
		}
	}
	if slices.Min(chainCodes[:3]) < 50 || slices.Min(diffCodes[:]) < 50 {
		t.Errorf("codes came too seldom: %v %v", chainCodes, diffCodes)
	}
}

// TestBigRandomChains asks at rooms of the greatest size, where an event is reached by many ways.
func TestBigRandomChains(t *testing.T) {
	random := rand.New(rand.NewSource(6))
	for range 4 {
		room := randomRoom(random, impl.MaxEvents)
		other := reordered(random, room)
		if !impl.RoomOk(room) || !impl.RoomOk(other) || sameRoom(room, other) {
			t.Fatalf("the rooms are not what the test needs")
		}
		for range 10 {
			ids, sets := randomIds(random, room), randomSets(random, room)
			for _, r := range []impl.Room{room, other} {
				checkChain(t, "big", r, ids, sortedKeys(wantedChain(room, ids)), 0)
				checkDiff(t, "big", r, sets, wantedDiff(room, sets), 0)
				checkTips(t, "big", r, wantedTips(room), 0)
			}
		}
	}
}

// TestReorderedRooms holds promise 4 at many orders of one room, with every id and every pair of sets.
func TestReorderedRooms(t *testing.T) {
	random := rand.New(rand.NewSource(7))
	room := forkedRoom()
	for range 20 {
		other := reordered(random, room)
		checkRoomOk(t, "another order", other, true)
		checkTips(t, "another order", other, idList("$j $s"), 0)
		for _, a := range idsOf(room) {
			checkChain(t, "another order", other, []string{a}, sortedKeys(wantedChain(room, []string{a})), 0)
			for _, b := range idsOf(room) {
				sets := [][]string{{a}, {b}}
				checkDiff(t, "another order", other, sets, wantedDiff(room, sets), 0)
			}
		}
	}
}

// TestOneAnswerUnderEverySchedule asks the same of one room from many goroutines at once.
func TestOneAnswerUnderEverySchedule(t *testing.T) {
	random := rand.New(rand.NewSource(8))
	room := randomRoom(random, impl.MaxEvents)
	var sets [][]string
	for range impl.MaxSets {
		sets = append(sets, randomIds(random, room))
	}
	want := wantedDiff(room, sets)
	var asked sync.WaitGroup
	for range 16 {
		asked.Go(func() {
			for range 10 {
				if got, code := impl.AuthDiff(room, sets); code != 0 || !slices.Equal(got, want) {
					t.Errorf("%q, %d; not %q", got, code, want)
				}
			}
		})
	}
	asked.Wait()
}
