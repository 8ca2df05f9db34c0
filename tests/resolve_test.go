package tests

import (
	"math/rand"
	"slices"
	"strconv"
	"testing"

	"loop.example/s01366/impl"
)

// reversed gives the same list the other way round.
func reversed[T any](list []T) []T {
	out := slices.Clone(list)
	slices.Reverse(out)
	return out
}

func shuffled[T any](random *rand.Rand, list []T) []T {
	out := slices.Clone(list)
	random.Shuffle(len(out), func(i, k int) { out[i], out[k] = out[k], out[i] })
	return out
}

func statesOf(texts ...string) [][]impl.Entry {
	var states [][]impl.Entry
	for _, text := range texts {
		states = append(states, entriesOf(text))
	}
	return states
}

func TestSplit(t *testing.T) {
	cases := []struct {
		states       []string
		same, others string
	}{
		{nil, "", ""},
		{[]string{""}, "", ""},
		{[]string{"", "", ""}, "", ""},
		{[]string{"a/=1 b/k=2"}, "a/=1 b/k=2", ""},
		{[]string{"a/=1 b/k=2", "a/=1 b/k=2"}, "a/=1 b/k=2", ""},
		{[]string{"a/=1", ""}, "", "1"},
		{[]string{"a/=1", "a/=2"}, "", "1 2"},
		{[]string{"a/=2", "b/=1"}, "", "1 2"},
		{[]string{"a/=1", "a/x=1"}, "", "1"},
		{[]string{"a/=1 b/=2", "a/=1 b/=3"}, "a/=1", "2 3"},
		{[]string{"a/=1 b/=2", "a/=1"}, "a/=1", "2"},
		{[]string{"a/=1 b/=2", "a/=3 b/=2"}, "b/=2", "1 3"},
		{[]string{"a/=1 b/=1", "a/=1 b/=2"}, "a/=1", "1 2"},
		{[]string{"a/=9 b/=9 c/=9", "b/=9"}, "b/=9", "9"},
		{[]string{"a/=1 b/=2 c/=3", "a/=1 b/=2 c/=4", "a/=1 b/=5 c/=3"}, "a/=1", "2 3 4 5"},
		{[]string{"a/=1 b/=2", "a/=1 b/=2", "a/=1 b/=2", "b/=2"}, "b/=2", "1"},
		{[]string{"a/=1 b/=2", "a/=1 b/=2", ""}, "", "1 2"},
		{[]string{"a/=b c/=a", "a/=B c/=_"}, "", "B _ a b"},
		{[]string{"B/=1 a/x=2 a/y=3 b/=4", "B/=1 a/y=3 b/=4 c/=5"}, "B/=1 a/y=3 b/=4", "2 5"},
	}
	for _, c := range cases {
		checkSplit(t, "some", statesOf(c.states...), entriesOf(c.same), idList(c.others), true)
		checkSplit(t, "the other way round", reversed(statesOf(c.states...)), entriesOf(c.same), idList(c.others), true)
	}
}

func TestSplitOfManyStates(t *testing.T) {
	full := numberedEntries("n", impl.MaxEntries)
	states := slices.Repeat([][]impl.Entry{full}, impl.MaxSets)
	checkSplit(t, "as many as there may be", states, full, nil, true)
	checkSplit(t, "one too many", append(states, full), nil, nil, false)
	checkSplit(t, "one too many and empty", make([][]impl.Entry, impl.MaxSets+1), nil, nil, false)
	checkSplit(t, "many too many", slices.Repeat(states, 50), nil, nil, false)
	last := slices.Clone(states)
	last[impl.MaxSets-1] = full[1:]
	checkSplit(t, "the last is another", last, full[1:], []string{full[0].Id}, true)
	apartAll := slices.Clone(states)
	var ids []string
	for i := range apartAll {
		apartAll[i] = slices.Clone(full)
		for k := range apartAll[i] {
			apartAll[i][k].Id = "s" + strconv.Itoa(1000*(i+1)+k)
			ids = append(ids, apartAll[i][k].Id)
		}
	}
	slices.Sort(ids)
	checkSplit(t, "nothing is the same", apartAll, nil, ids, true)
	for name, bad := range badStates() {
		checkSplit(t, name, [][]impl.Entry{bad}, nil, nil, false)
		checkSplit(t, name, [][]impl.Entry{bad, bad}, nil, nil, false)
		checkSplit(t, name, [][]impl.Entry{entriesOf("a/=1"), nil, bad}, nil, nil, false)
		checkSplit(t, name, [][]impl.Entry{nil, bad, entriesOf("a/=1")}, nil, nil, false)
	}
}

func TestConflicted(t *testing.T) {
	room := townRoom()
	cases := []struct {
		states []string
		want   string
	}{
		{nil, ""},
		{[]string{""}, ""},
		{[]string{"$t3 $k"}, ""},
		{[]string{"$t1", "$t1"}, ""},
		{[]string{"$t1", ""}, "$t1"},
		{[]string{"$t1", "$t2"}, "$t1 $t2"},
		{[]string{"$t1", "$t1", "$t2"}, "$t1 $t2"},
		{[]string{"$k", ""}, "$b $k"},
		{[]string{"$k", "$t1"}, "$b $k $t1"},
		{[]string{"$q1", "$q2"}, "$q1 $q2"},
		{[]string{"$q1", "$t1"}, "$p $q1 $t1"},
		{[]string{"$t4", ""}, "$m $t4"},
		{[]string{"$t4", "$t1"}, "$m $t1 $t4"},
		{[]string{"$t2 $z", "$t2"}, "$t1 $z"},
		{[]string{"$t1 $z", "$t2"}, "$t1 $t2 $z"},
		{[]string{"$n1", ""}, "$e1 $e2 $n1"},
		{[]string{"$n0 $n1", "$n0"}, "$n1"},
		{[]string{"$n0", "$n1"}, "$n0 $n1"},
		{[]string{"$y", "$t1", ""}, "$q1 $t1 $y"},
	}
	for _, c := range cases {
		var states [][]impl.Entry
		for _, ids := range c.states {
			states = append(states, townState(ids))
		}
		checkConflicted(t, "town", room, states, idList(c.want), true)
		checkConflicted(t, "town, the other way round", room, reversed(states), idList(c.want), true)
	}
	many := slices.Repeat([][]impl.Entry{townState("$t1")}, impl.MaxSets)
	checkConflicted(t, "as many as there may be", room, many, nil, true)
	many[impl.MaxSets-1] = townState("$k")
	checkConflicted(t, "the last is another", room, many, idList("$b $k $t1"), true)
	checkConflicted(t, "with the empty state", room, [][]impl.Entry{townState(""), nil}, idList("$a $b $c $d $j $p"), true)
	checkConflicted(t, "empty states", room, [][]impl.Entry{nil, {}}, nil, true)
	checkConflicted(t, "an empty room", impl.Room{}, nil, nil, true)
	checkConflicted(t, "an empty room", impl.Room{}, [][]impl.Entry{nil, {}}, nil, true)
	checkConflicted(t, "an empty room", impl.Room{}, [][]impl.Entry{entriesOf("create/=$c")}, nil, false)
}

// TestStatesThatDoNotFit asks Conflicted and Resolve where both answer nothing.
func TestStatesThatDoNotFit(t *testing.T) {
	here := court{members: "@a=join @b=join", rules: "public", power: "@a:100"}
	room := here.room()
	room.Events = append(room.Events, eventOf("$n @a msg - 5 $c $c -"))
	check := func(name string, r impl.Room, states ...[]impl.Entry) {
		t.Helper()
		checkConflicted(t, name, r, states, nil, false)
		checkResolve(t, name, r, states, nil, false)
	}
	for name, s := range misfits(here) {
		check(name, room, s)
		check(name, room, s, s)
		check(name, room, here.state(), s)
		check(name, room, s, here.state(), nil)
	}
	for name, bad := range badRooms() {
		check(name, bad)
		check(name, bad, nil)
		check(name, bad, stateWith(forkedRoom(), "$c", "$a", "$p"))
	}
	check("one state too many", room, make([][]impl.Entry, impl.MaxSets+1)...)
	check("one state too many", room, slices.Repeat([][]impl.Entry{here.state()}, impl.MaxSets+1)...)
	check("one state too many in the empty room", impl.Room{}, make([][]impl.Entry, impl.MaxSets+1)...)
}

func TestPowerOrder(t *testing.T) {
	cases := []struct{ ids, want string }{
		{"", ""},
		{"$t $i $k5 $w6 $b $a $c $m", ""},
		{"$c $a", ""},
		{"$k1", "$k1"},
		{"$k1 $k2", "$k2 $k1"},
		{"$k1 $k2 $k1 $k2 $k2", "$k2 $k1"},
		{"$k1 $k2 $k3 $k4", "$k4 $k2 $k3 $k1"},
		{"$k1 $t $b", "$b $k1"},
		{"$k1 $t $b $k5 $c", "$c $b $k1"},
		{"$p2 $k1 $j1", "$k1 $p2 $j1"},
		{"$p2 $p1 $j1", "$p1 $p2 $j1"},
		{"$p2 $b $j2", "$j2 $b $p2"},
		{"$j1 $p4", "$p4 $j1"},
		{"$j1 $m $p4", "$j1 $m $p4"},
		{"$j1 $m", "$j1"},
		{"$m $p4", "$m $p4"},
		{"$m $a $c $p4", "$c $a $m $p4"},
		{"$w4 $j1 $m", "$j1 $m $w4"},
		{"$w1 $w2 $w3 $w4 $w5", "$w3 $w5 $w1 $w2 $w4"},
		{"$w4 $k2 $j1 $j2", "$j2 $k2 $j1 $w4"},
		{"$p1 $a $c $t", "$c $a $p1"},
	}
	room := orderRoom()
	for _, c := range cases {
		checkPowerOrder(t, "some", room, idList(c.ids), idList(c.want), true)
		checkPowerOrder(t, "the other way round", room, reversed(idList(c.ids)), idList(c.want), true)
	}
	all := "$c $a $p1 $j2 $k4 $b $k2 $k3 $k1 $p2 $w3 $w5 $w1 $w2 $j1 $m $p4 $w4"
	checkPowerOrder(t, "all", room, idsOf(room), idList(all), true)
	checkPowerOrder(t, "an empty room", impl.Room{}, nil, nil, true)
}

func TestMainline(t *testing.T) {
	cases := []struct{ id, want string }{
		{"", ""},
		{"$p1", "$p1"},
		{"$p2", "$p2 $p1"},
		{"$p3", "$p3 $p2 $p1"},
		{"$s1", "$s1 $p1"},
		{"$s2", "$s2 $s1 $p1"},
		{"$o1", "$o1"},
		{"$o2", "$o2 $o1"},
	}
	for _, c := range cases {
		checkMainline(t, c.id, lineOfPowers(), c.id, idList(c.want), true)
	}
	checkMainline(t, "an auth that has others in front", orderRoom(), "$p4", idList("$p4 $p1"), true)
	checkMainline(t, "an empty room", impl.Room{}, "", nil, true)
	for _, id := range []string{"$c", "$e0", "$g3", "$zz", "$p", "$p1 ", "p1", " ", "power", "$p2,$p1"} {
		checkMainline(t, id, lineOfPowers(), id, nil, false)
		checkMainOrder(t, id, lineOfPowers(), idList("$e0 $e1"), id, nil, false)
		checkMainOrder(t, id, lineOfPowers(), nil, id, nil, false)
	}
	checkMainline(t, "an empty room", impl.Room{}, "$p1", nil, false)
	long := powerLine(impl.MaxEvents)
	checkMainline(t, "long", long, "$n299", reversed(idsOf(long)[1:]), true)
	checkMainline(t, "from the middle", long, "$n150", reversed(idsOf(long)[1:151]), true)
	checkMainline(t, "from the first", long, "$n1", []string{"$n1"}, true)
}

func TestMainOrder(t *testing.T) {
	room := lineOfPowers()
	cases := []struct{ ids, power, want string }{
		{"", "$p3", ""},
		{"$e0", "$p3", "$e0"},
		{"$e0 $e1 $e2 $e3", "$p3", "$e3 $e2 $e1 $e0"},
		{"$e0 $e1 $e2 $e3 $e0 $e3", "$p3", "$e3 $e2 $e1 $e0"},
		{"$e0 $e1 $e2 $e3", "$p2", "$e3 $e2 $e0 $e1"},
		{"$e0 $e1 $e2 $e3", "$p1", "$e3 $e0 $e1 $e2"},
		{"$e0 $e1 $e2 $e3", "$o1", "$e0 $e1 $e2 $e3"},
		{"$e0 $e1 $e2 $e3", "", "$e0 $e1 $e2 $e3"},
		{"$p1 $p2 $p3", "$p3", "$p1 $p2 $p3"},
		{"$p1 $p2 $p3 $s2", "$p2", "$s2 $p1 $p2 $p3"},
		{"$f3 $o1 $o2 $c", "$o2", "$c $o1 $o2 $f3"},
		{"$g3 $e0", "$p3", "$g3 $e0"},
		{"$c $f3 $f2", "$s2", "$c $f3 $f2"},
	}
	for _, c := range cases {
		checkMainOrder(t, "some", room, idList(c.ids), c.power, idList(c.want), true)
		checkMainOrder(t, "the other way round", room, reversed(idList(c.ids)), c.power, idList(c.want), true)
	}
	for power, want := range map[string]string{
		"$p3": "$c $o2 $f3 $g3 $e3 $o1 $s1 $s2 $f2 $e2 $p1 $e1 $p2 $e0 $p3",
		"$s2": "$c $o2 $f3 $g3 $e3 $o1 $e0 $e1 $e2 $p1 $p2 $p3 $s1 $s2 $f2",
		"$o1": "$c $s1 $s2 $f2 $g3 $e0 $e1 $e2 $e3 $p1 $p2 $p3 $o2 $f3 $o1",
		"":    "$c $o2 $s1 $s2 $f2 $f3 $g3 $e0 $e1 $e2 $e3 $p1 $o1 $p2 $p3",
	} {
		checkMainOrder(t, "all", room, idsOf(room), power, idList(want), true)
	}
	checkMainOrder(t, "an empty room", impl.Room{}, nil, "", nil, true)
	long := powerLine(impl.MaxEvents)
	checkMainOrder(t, "a long line", long, reversed(idsOf(long)), "$n299", idsOf(long), true)
	middle := slices.Concat([]string{"$c"}, idsOf(long)[1:150], slices.Sorted(slices.Values(idsOf(long)[150:])))
	checkMainOrder(t, "a line from the middle", long, idsOf(long), "$n150", middle, true)
}

// TestOrdersOfManyIds asks at as many ids as there may be and at one more, and at ids and rooms that are wrong.
func TestOrdersOfManyIds(t *testing.T) {
	check := func(name string, r impl.Room, ids []string, power string) {
		t.Helper()
		checkPowerOrder(t, name, r, ids, nil, false)
		checkMainOrder(t, name, r, ids, power, nil, false)
	}
	room := orderRoom()
	many := slices.Repeat([]string{"$k1", "$k2"}, impl.MaxEvents/2)
	checkPowerOrder(t, "as many as there may be", room, many, idList("$k2 $k1"), true)
	checkMainOrder(t, "as many as there may be", room, many, "$p1", idList("$k2 $k1"), true)
	check("one too many", room, append(many, "$k1"), "$p1")
	check("far too many", room, slices.Repeat(many, 50), "")
	long := powerLine(impl.MaxEvents)
	checkPowerOrder(t, "all of a full room", long, reversed(idsOf(long)), idsOf(long), true)
	check("all of a full room and one again", long, append(idsOf(long), "$c"), "")
	for _, ids := range []string{"$zz", "$zz $k1", "$k1 $zz", "$K1", "$k"} {
		check("unknown", room, idList(ids), "$p1")
		check("unknown", room, idList(ids), "")
	}
	check("the empty id", room, []string{""}, "")
	check("an empty room", impl.Room{}, []string{"$c"}, "")
	for name, bad := range badRooms() {
		for _, ids := range [][]string{nil, {"$c"}, {"$p", "$a"}, {"$zz"}} {
			check(name, bad, ids, "")
			check(name, bad, ids, "$p")
		}
		checkMainline(t, name, bad, "", nil, false)
		checkMainline(t, name, bad, "$p", nil, false)
	}
}

func TestResolveTown(t *testing.T) {
	cases := []struct {
		name   string
		states []string
		want   string
	}{
		{"one state is kept, with what would be refused", []string{"$t3 $k"}, "$t3 $k"},
		{"equal states", []string{"$t3 $k", "$t3 $k", "$t3 $k"}, "$t3 $k"},
		{"what one state has is tried", []string{"$t1", ""}, "$t1"},
		{"and refused", []string{"$t3", ""}, ""},
		{"the later of two", []string{"$t1", "$t2"}, "$t2"},
		{"the later of three", []string{"$t1", "", "$t2"}, "$t2"},
		{"the greater id at one time", []string{"$t1", "$t7"}, "$t7"},
		{"the later is refused", []string{"$t1", "$t3"}, "$t1"},
		{"a ban comes first", []string{"$k", "$t1"}, "$k"},
		{"a ban, and one whom it does not touch", []string{"$k", "$t2"}, "$k $t2"},
		{"a ban against rules", []string{"$k", "$j2"}, "$k"},
		{"a demotion comes first", []string{"$q1", "$t1"}, "$q1"},
		{"the greater author of two powers", []string{"$q1", "$q2"}, "$q1"},
		{"a power that is allowed", []string{"$q2", ""}, "$q2"},
		{"a message is passed over", []string{"$t4", ""}, "$t4"},
		{"a message is passed over among others", []string{"$t4", "$t1"}, "$t4"},
		{"a message is passed over among powers", []string{"$q3", ""}, "$q3"},
		{"rules come before a join", []string{"$f", "$j2"}, "$j2"},
		{"a join alone", []string{"$f", ""}, "$f"},
		{"what the chain brings is tried too", []string{"$n1", ""}, "$e2"},
		{"the first in Auth lets it in", []string{"$n0 $n1", "$n0"}, "$n0 $n1"},
		{"the first in Auth keeps it out", []string{"$n0 $n2", "$n0"}, "$n0"},
		{"the state at hand goes before Auth, and keeps it out", []string{"$e2 $n0 $n1", "$e2 $n0"}, "$e2 $n0"},
		{"the state at hand goes before Auth, and lets it in", []string{"$e1 $n0 $n2", "$e1 $n0"}, "$e1 $n0 $n2"},
		{"what all agree on is put again", []string{"$t2 $z", "$t2"}, "$t2 $z"},
		{"a power that is not agreed on counts while events are tried", []string{"$y", "$t1"}, "$y"},
		{"the lesser depth is last", []string{"$q1 $t5", "$q1 $t6"}, "$q1 $t5"},
		{"the mainline of a power that came in", []string{"$t5", "$t6"}, "$t5"},
	}
	for _, c := range cases {
		var states [][]impl.Entry
		for _, ids := range c.states {
			states = append(states, townState(ids))
		}
		checkResolve(t, c.name, townRoom(), states, townState(c.want), true)
		checkResolve(t, c.name+", the other way round", townRoom(), reversed(states), townState(c.want), true)
	}
}

func TestResolveWithLittle(t *testing.T) {
	room := townRoom()
	checkResolve(t, "no state", room, nil, nil, true)
	checkResolve(t, "the empty state", room, [][]impl.Entry{nil}, nil, true)
	checkResolve(t, "empty states", room, [][]impl.Entry{nil, {}, nil}, nil, true)
	checkResolve(t, "no state of an empty room", impl.Room{}, nil, nil, true)
	checkResolve(t, "empty states of an empty room", impl.Room{}, [][]impl.Entry{nil, {}}, nil, true)
	checkResolve(t, "all is tried again", room, [][]impl.Entry{townState("$t1"), nil}, townState("$t1"), true)
	checkResolve(t, "all is tried again", room, [][]impl.Entry{nil, townState("$t3")}, townState(""), true)
	// Without a create event in the state at hand or in Auth nothing but a create event is allowed.
	alone := roomOf("$c @a create = 9 - - -", "$a @a member =@a 1 $c $c join", "$t @a topic = 2 $a $a x")
	checkResolve(t, "no create in Auth", alone, [][]impl.Entry{stateWith(alone, "$t"), nil}, stateWith(alone, "$a", "$c"), true)
	checkResolve(t, "create comes late", alone, [][]impl.Entry{stateWith(alone, "$c", "$a", "$t"), nil}, stateWith(alone, "$a", "$c"), true)
	checkResolve(t, "create is agreed on", alone, [][]impl.Entry{stateWith(alone, "$c", "$t"), stateWith(alone, "$c")}, stateWith(alone, "$a", "$c", "$t"), true)
	full := make([][]impl.Entry, impl.MaxSets)
	for i := range full {
		full[i] = townState("$t1")
	}
	checkResolve(t, "as many as there may be", room, full, townState("$t1"), true)
	full[impl.MaxSets-1] = townState("$t2")
	checkResolve(t, "the last is another", room, full, townState("$t2"), true)
}

// TestRandomOrders holds promise 11 at random rooms and ids, and asks again with the ids and the events in other orders.
func TestRandomOrders(t *testing.T) {
	random := rand.New(rand.NewSource(15))
	answered := 0
	for range 2500 {
		room := livelyRoom(random, 1+random.Intn(30))
		ids := shuffled(random, idsOf(room))[:random.Intn(len(room.Events)+1)]
		ids = append(ids, ids[:random.Intn(len(ids)+1)]...)
		power := pick(random, "", lastAt(room, impl.Slot{Type: "power"}).Id, pick(random, idsOf(room)...))
		switch random.Intn(25) {
		case 0:
			ids = append(ids, "$zz")
		case 1:
			room = spoiledRoom(random, room)
		}
		order, ok := wantedPowerOrder(room, ids)
		line, lineOk := wantedMainline(room, power)
		main, mainOk := wantedMainOrder(room, ids, power)
		checkPowerOrder(t, "random", room, ids, order, ok)
		checkMainline(t, "random", room, power, line, lineOk)
		checkMainOrder(t, "random", room, ids, power, main, mainOk)
		if !ok {
			continue
		}
		answered++
		checkRestOrder(t, room, ids)
		other := reordered(random, room)
		checkPowerOrder(t, "another order", other, shuffled(random, ids), order, true)
		checkMainline(t, "another order", other, power, line, lineOk)
		checkMainOrder(t, "another order", other, shuffled(random, ids), power, main, mainOk)
	}
	if answered < 2000 {
		t.Errorf("too few orders: %d", answered)
	}
}

// checkRestOrder looks at the answer itself: none comes before one that it rests on.
func checkRestOrder(t *testing.T, r impl.Room, ids []string) {
	t.Helper()
	order, _ := impl.PowerOrder(r, ids)
	for i, id := range order {
		for _, later := range order[i:] {
			if slices.Contains(eventNamed(r, id).Auth, later) {
				t.Errorf("PowerOrder of %q has %q before %q", ids, id, later)
			}
		}
	}
}

// TestRandomResolve holds promise 12 at random rooms and states, fitting ones and others.
func TestRandomResolve(t *testing.T) {
	random := rand.New(rand.NewSource(16))
	answered, changed := 0, 0
	for range 1500 {
		room := livelyRoom(random, 2+random.Intn(25))
		states := randomStates(random, room)
		switch random.Intn(25) {
		case 0:
			states = append(states, spoiledFit(random, room, randomFit(random, room)))
		case 1:
			room = spoiledRoom(random, room)
		}
		same, others, splitOk := wantedSplit(states)
		conflicted, ok := wantedConflicted(room, states)
		want, _ := wantedResolve(room, states)
		checkSplit(t, "random", states, same, others, splitOk)
		checkConflicted(t, "random", room, states, conflicted, ok)
		checkResolve(t, "random", room, states, want, ok)
		if !ok {
			continue
		}
		answered++
		if len(conflicted) > 2 {
			changed++
		}
		checkResolved(t, room, states)
		turned, other := shuffled(random, states), reordered(random, room)
		checkConflicted(t, "another order", other, turned, conflicted, true)
		checkResolve(t, "another order of states", room, turned, want, true)
		checkResolve(t, "another order of events", other, turned, want, true)
	}
	if answered < 1200 || changed < 500 {
		t.Errorf("too few states were resolved: %d, %d", answered, changed)
	}
}

// checkResolved looks at the answer itself, as promise 12 tells it.
func checkResolved(t *testing.T, r impl.Room, states [][]impl.Entry) {
	t.Helper()
	got, ok := impl.Resolve(r, states)
	if !ok || !wantedFitsValid(r, got) {
		t.Errorf("Resolve of %v does not fit the room: %v", states, got)
	}
	if len(states) == 1 && !slices.Equal(got, states[0]) {
		t.Errorf("Resolve of one state, %v, is %v", states[0], got)
	}
	for _, e := range slices.Concat(states...) {
		if inAll(states, e) && !slices.Contains(got, e) {
			t.Errorf("Resolve of %v has no %v, on which all agree: %v", states, e, got)
		}
	}
}

// TestBigResolve asks at rooms of the greatest size.
func TestBigResolve(t *testing.T) {
	random := rand.New(rand.NewSource(17))
	for range 3 {
		room := livelyRoom(random, impl.MaxEvents)
		other := reordered(random, room)
		if !impl.RoomOk(room) || !impl.RoomOk(other) {
			t.Fatalf("the rooms are not what the test needs")
		}
		ids, power := idsOf(room), lastAt(room, impl.Slot{Type: "power"}).Id
		order, _ := wantedPowerOrder(room, ids)
		main, _ := wantedMainOrder(room, ids, power)
		checkPowerOrder(t, "big", other, shuffled(random, ids), order, true)
		checkMainOrder(t, "big", other, shuffled(random, ids), power, main, true)
		for range 3 {
			var states [][]impl.Entry
			for range pick(random, 2, 3, impl.MaxSets) {
				states = append(states, randomFit(random, room))
			}
			want, _ := wantedResolve(room, states)
			checkResolve(t, "big", room, states, want, true)
			checkResolve(t, "big, another order", other, reversed(states), want, true)
			checkResolved(t, room, states)
		}
	}
}
