package tests

import (
	"math/rand"
	"slices"
	"strconv"
	"testing"

	"loop.example/s01366/impl"
)

func zeros(count int) []int {
	return make([]int, count)
}

// engineOf is Build's answer where the states are those of the store, and the cover is that of the room.
func engineOf(r impl.Room, st impl.Store, before, after []int) impl.Engine {
	return impl.Engine{Room: r, Cover: wantedCover(r), Store: st, Before: before, After: after}
}

// swapped gives the events of a room with two of them in each other's place.
func swapped(r impl.Room, a, b string) impl.Room {
	return changedRoom(r, func(r *impl.Room) {
		i, k := slices.Index(idsOf(*r), a), slices.Index(idsOf(*r), b)
		r.Events[i], r.Events[k] = r.Events[k], r.Events[i]
	})
}

func withPrev(r impl.Room, id, prev string) impl.Room {
	return changedRoom(r, func(r *impl.Room) { r.Events[slices.Index(idsOf(*r), id)].Prev = idList(prev) })
}

// TestNumbersOfGroups has numbers and groups worked out by hand.
func TestNumbersOfGroups(t *testing.T) {
	room, st := bridgeRoom(), bridgeStore()
	before, after := []int{0, 1, 2, 3, 4, 5, 5, 6, 6, 9, 9, 9}, []int{1, 2, 3, 4, 5, 5, 6, 7, 8, 9, 9, 10}
	checkBuild(t, "bridge", room.Events, engineOf(room, st, before, after), zeros(12))

	// The first event of Prev is the one near which the state before is saved.
	turned := withPrev(room, "$m", "$t $k")
	st.Groups[9] = storeOf("8 member/@b=$k topic/=").Groups[0]
	checkBuild(t, "the other one first in Prev", turned.Events, engineOf(turned, st, before, after), zeros(12))

	sooner := swapped(room, "$k", "$t")
	st = bridgeStore()
	st.Groups[7], st.Groups[8], st.Groups[9] = st.Groups[8], st.Groups[7], storeOf("8 topic/=").Groups[0]
	checkBuild(t, "the other one sooner", sooner.Events, engineOf(sooner, st, before, after), zeros(12))
}

// TestStatesThatAreThere has states before and after events that a group has already, near or not.
func TestStatesThatAreThere(t *testing.T) {
	room := roomOf(
		"$c @a create = 1 - - -",
		"$a @a member =@a 2 $c $c join",
		"$n @a msg - 3 $a $c,$a -",
		"$t @a topic = 4 $n $c,$a x",
		"$u @b topic = 5 $c $c x",
		"$v @a msg - 6 $u,$t $c,$a -",
		"$w @a topic = 7 $a,$v $c,$a y",
		"$z @a topic = 8 $w,$c,$t $c,$a z",
		"$l @a member =@a 9 $w $c,$a leave",
		"$m @a msg - 10 $z,$l $c,$a -",
	)
	st := storeOf(
		"-1",
		"0 create/=$c",
		"1 member/@a=$a",
		"2 topic/=$t",
		"3 topic/=$w",
		"-1 create/=$c member/@a=$a topic/=$z",
		"-1 create/=$c member/@a=$l topic/=$w",
		"5 member/@a=$l",
	)
	before, after := []int{0, 1, 2, 2, 1, 3, 3, 4, 4, 7}, []int{1, 2, 2, 3, 1, 3, 4, 5, 6, 7}
	checkBuild(t, "states that are there", room.Events, engineOf(room, st, before, after), zeros(10))
}

// TestIdsThatRunTogether has two states whose ids, one behind the other, are the same bytes.
func TestIdsThatRunTogether(t *testing.T) {
	room := roomOf(
		"$c @a create = 1 - - -",
		"$a @a member =@a 2 $c $c join",
		"x @a note =1 3 $a $c,$a -",
		"yz @a note =2 4 x $c,$a -",
		"xy @a note =1 5 $a $c,$a -",
		"z @a note =2 6 xy $c,$a -",
	)
	st := storeOf("-1", "0 create/=$c", "1 member/@a=$a", "2 note/1=x", "3 note/2=yz", "2 note/1=xy", "5 note/2=z")
	checkBuild(t, "ids that run together", room.Events, engineOf(room, st, []int{0, 1, 2, 3, 2, 5}, []int{1, 2, 3, 4, 5, 6}), zeros(6))
}

// TestBuildCodes has events with a code among those that come in, and some that come in only when they come again.
func TestBuildCodes(t *testing.T) {
	cases := []struct {
		line string
		code int
	}{
		{"$a @a member =@a 2 $c $c join", 7},
		{"$x @a msg - 1 - - -", 8},
		{"$c @a create = 1 - - -", 0},
		{"$c @a create = 1 - - -", 6},
		{"$c @b msg - 1 $zz $zy -", 6},
		{"$d @a create = 1 - - -", 8},
		{"$a @a member =@a 2 $c $c join", 0},
		{"$a @a msg - 5 $c $c -", 6},
		{"$e @a topic = 5 $zz $c -", 7},
		{"$e @a topic = 5 $c $a,$zz -", 7},
		{"$e @a topic = 5 - $c -", 8},
		{"$e @a topic = 5 $c - -", 8},
		{"$f @a msg - 6 $e $c -", 7},
		{"$f @a msg - 6 $a $e,$c -", 7},
		{"$e @a topic = 5 $a $c,$a -", 0},
		{"$f @a msg - 6 $e $c -", 0},
		{"$g @z topic = 7 $f $c -", 0},
		{"$h @a topic = 8 $g,$a $g,$a -", 0},
	}
	var events []impl.Event
	var codes []int
	for i, c := range cases {
		for code, kinds := range faults() {
			for _, fault := range kinds {
				spoiledOne := eventOf(c.line)
				fault(&spoiledOne)
				if code == 1+i%5 && wantedCode(spoiledOne) == code {
					events, codes = append(events, spoiledOne), append(codes, code)
				}
			}
		}
		events, codes = append(events, eventOf(c.line)), append(codes, c.code)
	}
	want, _ := wantedBuild(events)
	if !slices.Equal(idsOf(want.Room), idList("$c $a $e $f $g $h")) {
		t.Fatalf("the room is not what the test needs: %q", idsOf(want.Room))
	}
	checkBuild(t, "codes", events, want, codes)
	for code := 1; code <= 8; code++ {
		if !slices.Contains(codes, code) {
			t.Errorf("code %d did not come", code)
		}
	}
}

func TestBuildOfNothing(t *testing.T) {
	checkBuild(t, "nil", nil, impl.Engine{}, nil)
	checkBuild(t, "no event", []impl.Event{}, impl.Engine{}, nil)
	checkBuild(t, "an empty event", []impl.Event{{}}, impl.Engine{}, []int{1})
	checkBuild(t, "no create", bridgeRoom().Events[1:], impl.Engine{}, slices.Repeat([]int{7}, 11))
	checkBuild(t, "the first alone", createOnly().Events, engineOf(createOnly(), storeOf("-1", "0 create/=$c"), []int{0}, []int{1}), []int{0})
}

// builtBySteps does what the document says of Build by the functions of the chapters before, for lists that are too long for the second telling.
func builtBySteps(events []impl.Event) (impl.Engine, []int) {
	var g impl.Engine
	var codes []int
	var afters [][]impl.Entry
	for _, e := range events {
		room, code := impl.Insert(g.Room, e)
		g.Room, codes = room, append(codes, code)
		if code != 0 {
			continue
		}
		near := -1
		var states [][]impl.Entry
		for i, id := range e.Prev {
			place := slices.Index(idsOf(room), id)
			states = append(states, afters[place])
			if i == 0 {
				near = g.After[place]
			}
		}
		s, _ := impl.Resolve(room, states)
		g.Store, near = impl.Save(g.Store, s, near)
		g.Before = append(g.Before, near)
		if e.IsState && impl.Allowed(room, s, e) == 0 {
			s, _ = impl.Put(s, entryFor(e))
		}
		g.Store, near = impl.Save(g.Store, s, near)
		g.After, afters = append(g.After, near), append(afters, s)
	}
	g.Cover, _ = impl.MakeCover(g.Room)
	return g, codes
}

// noteRoom has a slot of its own for nearly every event, so that its states grow as far as they may.
func noteRoom(random *rand.Rand, size int) impl.Room {
	room := roomOf("$c @a create = 1 - - -", "$a @a member =@a 2 $c $c join")
	for i := 2; i < size; i++ {
		e := impl.Event{Id: "$n" + strconv.Itoa(i), Sender: "@a", Type: "note", IsState: true, Key: "k" + strconv.Itoa(i), Time: i, Auth: idList("$c $a")}
		e.Prev = []string{room.Events[i-1].Id}
		if other := room.Events[random.Intn(i)].Id; random.Intn(10) == 0 && other != e.Prev[0] {
			e.Prev = append([]string{other}, e.Prev...)
		}
		room.Events = append(room.Events, e)
	}
	return room
}

func TestBuildOfManyEvents(t *testing.T) {
	random := rand.New(rand.NewSource(30))
	for name, room := range map[string]impl.Room{
		"a line":  lineRoom(impl.MaxEvents + 1),
		"powers":  powerLine(impl.MaxEvents + 1),
		"notes":   noteRoom(random, impl.MaxEvents+1),
		"a crowd": livelyRoom(random, impl.MaxEvents+1),
	} {
		full := room.Events[:impl.MaxEvents]
		want, codes := builtBySteps(full)
		if len(want.Room.Events) != impl.MaxEvents {
			t.Fatalf("%s: the room is not what the test needs", name)
		}
		checkBuild(t, name, full, want, codes)
		last := room.Events[impl.MaxEvents]
		last.Prev, last.Auth = []string{full[0].Id}, []string{full[0].Id}
		unknown, twice, bare, wrong := copyOf(last), copyOf(last), copyOf(last), copyOf(last)
		unknown.Auth[0], twice.Id, bare.Prev, wrong.Sender = "$zz", full[9].Id, nil, ""
		more := append(slices.Clone(full), last, unknown, twice, bare, wrong, last)
		checkBuild(t, name+" and more", more, want, append(codes, 9, 7, 6, 8, 1, 9))
		checkBuiltStates(t, name, want.Room, 40)
	}
}

// checkBuiltStates holds promise 13: Build's states are those of Batch. Every step-th event is asked, and the last one.
func checkBuiltStates(t *testing.T, name string, r impl.Room, step int) {
	t.Helper()
	g, _ := impl.Build(r.Events)
	if !impl.StoreOk(g.Store) || !sameRoom(g.Room, r) || len(g.Before) != len(r.Events) || len(g.After) != len(r.Events) {
		t.Fatalf("%s: Build gives %+v", name, g)
	}
	for i := range r.Events {
		if i%step != 0 && i != len(r.Events)-1 {
			continue
		}
		before, after, code := impl.Batch(g.Room, r.Events[i].Id)
		gotBefore, okBefore := impl.Expand(g.Store, g.Before[i])
		gotAfter, okAfter := impl.Expand(g.Store, g.After[i])
		if code != 0 || !okBefore || !okAfter || !slices.Equal(gotBefore, before) || !slices.Equal(gotAfter, after) {
			t.Fatalf("%s: the states of %q are %v, %v in the store and %v, %v by Batch", name, r.Events[i].Id, gotBefore, gotAfter, before, after)
		}
	}
}

// muddled gives a list of a room's events in which some come twice, too soon, or spoiled.
func muddled(random *rand.Rand, r impl.Room) []impl.Event {
	var events []impl.Event
	for _, e := range r.Events {
		switch random.Intn(12) {
		case 0:
			events = append(events, spoiled(random, e))
		case 1:
			events = append(events, pick(random, r.Events...))
		case 2:
			events = append(events, pick(random, r.Events...), spoiled(random, pick(random, r.Events...)))
		}
		if random.Intn(25) > 0 {
			events = append(events, e)
		}
	}
	return events
}

func TestRandomBuild(t *testing.T) {
	random := rand.New(rand.NewSource(31))
	taken, left, groups := 0, 0, 0
	for i := range 120 {
		room := busyRoom(random, 7+random.Intn(25))
		if i%3 == 0 {
			room = livelyRoom(random, 1+random.Intn(30))
		}
		events := room.Events
		if i%2 == 0 {
			events = muddled(random, room)
		}
		want, codes := wantedBuild(events)
		checkBuild(t, "random", events, want, codes)
		checkBuiltStates(t, "random", want.Room, 1)
		bySteps, _ := builtBySteps(events)
		if !sameEngine(bySteps, want) {
			t.Errorf("by steps it is %+v, not %+v", bySteps, want)
		}
		taken, left, groups = taken+len(want.Room.Events), left+len(events)-len(want.Room.Events), groups+len(want.Store.Groups)
	}
	if taken < 1000 || left < 100 || groups < 800 {
		t.Errorf("too little came: %d events in, %d left out, %d groups", taken, left, groups)
	}
}

// statesById has the states before and after each event in Build's store.
func statesById(t *testing.T, events []impl.Event) map[string][2][]impl.Entry {
	t.Helper()
	g, codes := impl.Build(events)
	if !slices.Equal(codes, zeros(len(events))) {
		t.Fatalf("not all events come in: %v", codes)
	}
	states := map[string][2][]impl.Entry{}
	for i, e := range g.Room.Events {
		before, okBefore := impl.Expand(g.Store, g.Before[i])
		after, okAfter := impl.Expand(g.Store, g.After[i])
		if !okBefore || !okAfter {
			t.Fatalf("the groups %d and %d are not there", g.Before[i], g.After[i])
		}
		states[e.Id] = [2][]impl.Entry{before, after}
	}
	return states
}

func checkSameStates(t *testing.T, name string, got, want map[string][2][]impl.Entry) {
	t.Helper()
	if len(got) != len(want) {
		t.Errorf("%s: %d events have states, not %d", name, len(got), len(want))
	}
	for id, states := range want {
		if !slices.Equal(got[id][0], states[0]) || !slices.Equal(got[id][1], states[1]) {
			t.Errorf("%s: the states of %q are %v, not %v", name, id, got[id], states)
		}
	}
}

// withShuffledPrev leaves every event its Prev, in another order.
func withShuffledPrev(random *rand.Rand, r impl.Room) impl.Room {
	return changedRoom(r, func(r *impl.Room) {
		for i, e := range r.Events {
			r.Events[i].Prev = shuffled(random, e.Prev)
		}
	})
}

// allOrders visits the events of a valid room in every order in which parents come first.
func allOrders(out, waiting []impl.Event, visit func(events []impl.Event)) {
	if len(waiting) == 0 {
		visit(out)
	}
	for _, e := range waiting {
		if wantedInsert(out, e) == 0 {
			allOrders(append(slices.Clone(out), e), withoutEvent(waiting, e.Id), visit)
		}
	}
}

// TestEveryOrder has two forks, and merges of three events in three orders of Prev.
func TestEveryOrder(t *testing.T) {
	room := roomOf(
		"$c @a create = 1 - - -",
		"$a @a member =@a 2 $c $c join",
		"$t1 @a topic = 9 $a $c,$a one",
		"$t2 @a topic = 4 $a $c,$a two",
		"$j @a join_rules = 5 $a $c,$a public",
		"$b @b member =@b 6 $j $c,$j join",
		"$m1 @a msg - 7 $t1,$t2,$b $c,$a -",
		"$m2 @a note =n 8 $b,$t1,$t2 $c,$a -",
		"$m3 @z topic = 9 $t2,$b,$t1 $c -",
	)
	want := map[string][2][]impl.Entry{}
	joined := stateWith(room, idList("$c $a $t1 $j $b")...)
	for _, id := range idList("$m1 $m2 $m3") {
		want[id] = [2][]impl.Entry{joined, joined}
	}
	want["$m2"] = [2][]impl.Entry{joined, withChange(joined, entry("note", "n", "$m2"))}
	for id, ids := range map[string][2]string{"$c": {"", "$c"}, "$a": {"$c", "$c $a"}, "$t1": {"$c $a", "$c $a $t1"}, "$t2": {"$c $a", "$c $a $t2"}, "$j": {"$c $a", "$c $a $j"}, "$b": {"$c $a $j", "$c $a $j $b"}} {
		want[id] = [2][]impl.Entry{stateWith(room, idList(ids[0])...), stateWith(room, idList(ids[1])...)}
	}
	orders := 0
	allOrders(nil, room.Events, func(events []impl.Event) {
		orders++
		checkSameStates(t, "order "+strconv.Itoa(orders), statesById(t, events), want)
	})
	if orders != 12*6 {
		t.Errorf("%d orders came", orders)
	}
}

func TestBridgeInEveryOrder(t *testing.T) {
	room := bridgeRoom()
	want := map[string][2][]impl.Entry{}
	for id, ids := range bridgeStates() {
		want[id] = [2][]impl.Entry{stateWith(room, idList(ids[0])...), stateWith(room, idList(ids[1])...)}
	}
	allOrders(nil, room.Events, func(events []impl.Event) {
		checkSameStates(t, "bridge", statesById(t, events), want)
	})
	for _, prevs := range []string{"$k $t", "$t $k"} {
		turned := withPrev(withPrev(room, "$m", prevs), "$o", "$t $n")
		checkSameStates(t, "bridge, turned", statesById(t, turned.Events), want)
	}
}

// TestRandomOrdersOfEvents holds promise 14.
func TestRandomOrdersOfEvents(t *testing.T) {
	random := rand.New(rand.NewSource(32))
	for i := range 150 {
		room := busyRoom(random, 7+random.Intn(20))
		if i%3 == 0 {
			room = livelyRoom(random, 5+random.Intn(40))
		}
		want := statesById(t, room.Events)
		for range 4 {
			checkSameStates(t, "another order", statesById(t, reordered(random, room).Events), want)
			checkSameStates(t, "another order, of Prev too", statesById(t, withShuffledPrev(random, reordered(random, room)).Events), want)
		}
	}
	for range 2 {
		room := livelyRoom(random, impl.MaxEvents)
		want := statesById(t, room.Events)
		checkSameStates(t, "a big room", statesById(t, withShuffledPrev(random, reordered(random, room)).Events), want)
	}
}
