package tests

import (
	"math/rand"
	"slices"
	"testing"

	"loop.example/s01366/impl"
)

func TestBatchOfBridge(t *testing.T) {
	room := bridgeRoom()
	for id, ids := range bridgeStates() {
		before, after := stateWith(room, idList(ids[0])...), stateWith(room, idList(ids[1])...)
		checkBatch(t, "bridge", room, id, before, after, 0)
		for size := 1 + slices.Index(idsOf(room), id); size <= len(room.Events); size++ {
			checkBatch(t, "the first events of bridge", impl.Room{Events: room.Events[:size]}, id, before, after, 0)
		}
	}
}

func TestBatchCodes(t *testing.T) {
	for name, room := range badRooms() {
		for _, id := range []string{"$c", "$a", "$zz", ""} {
			checkBatch(t, name, room, id, nil, nil, 1)
		}
	}
	for _, id := range []string{"$zz", "", "$C", "$", "$c ", "$c,$a", "c", "$a\n"} {
		checkBatch(t, "not in it", bridgeRoom(), id, nil, nil, 2)
		checkBatch(t, "not in the empty room", impl.Room{}, id, nil, nil, 2)
	}
	checkBatch(t, "the empty room", impl.Room{Events: []impl.Event{}}, "$c", nil, nil, 2)
	for i, e := range bridgeRoom().Events {
		checkBatch(t, "not in it yet", impl.Room{Events: bridgeRoom().Events[:i]}, e.Id, nil, nil, 2)
	}
}

// TestEventsThatChangeNothing has events that no state ever has, and what follows them.
func TestEventsThatChangeNothing(t *testing.T) {
	base := bridgeRoom().Events[:5]
	s := stateWith(bridgeRoom(), idList("$c $a $p $j $b")...)
	cases := []struct {
		name, line string
	}{
		{"no member", "$e @z topic = 9 $b $c,$p x"},
		{"no member and a member event", "$e @z member =@y 9 $b $c,$p invite"},
		{"a ban without the level", "$e @b member =@a 9 $b $c,$p,$b,$a ban"},
		{"a join of another", "$e @b member =@z 9 $b $c,$p,$b,$j join"},
		{"a leave of one who is not there", "$e @z member =@z 9 $b $c,$p leave"},
		{"an invite of a member", "$e @a member =@b 9 $b $c,$p,$a,$b invite"},
		{"the key of another", "$e @a note =@b 9 $b $c,$p,$a x"},
		{"grants above", "$e @b power = 9 $b $c,$p,$b @a:100,@b:60"},
		{"a message", "$e @b msg - 9 $b $c,$p,$b hi"},
		{"a message of a state's type", "$e @b topic - 9 $b $c,$p,$b hi"},
		{"a message of one who is no member", "$e @z msg - 9 $b $c -"},
	}
	for _, c := range cases {
		room := impl.Room{Events: append(slices.Clone(base), eventOf(c.line), eventOf("$f @b topic = 10 $e $c,$p,$b z"), eventOf("$g @a msg - 11 $e,$f,$b $c,$e -"))}
		after := withChange(s, entry("topic", "", "$f"))
		checkBatch(t, c.name, room, "$e", s, s, 0)
		checkBatch(t, c.name+", what follows", room, "$f", s, after, 0)
		checkBatch(t, c.name+", what joins", room, "$g", after, after, 0)
	}
}

// leastRoom has an event and all those behind it alone.
func leastRoom(r impl.Room, id string) impl.Room {
	behind := map[string]bool{id: true}
	var events []impl.Event
	for _, e := range slices.Backward(r.Events) {
		if !behind[e.Id] {
			continue
		}
		events = append(events, e)
		for _, ref := range slices.Concat(e.Prev, e.Auth) {
			behind[ref] = true
		}
	}
	slices.Reverse(events)
	return impl.Room{Events: events}
}

// between gives a room that has all events of the first and some more of the second, which has them all.
func between(random *rand.Rand, least, whole impl.Room) impl.Room {
	var events []impl.Event
	for _, e := range whole.Events {
		if hasId(least.Events, e.Id) || random.Intn(3) > 0 && wantedInsert(events, e) == 0 {
			events = append(events, e)
		}
	}
	return impl.Room{Events: events}
}

// TestBatchInGreaterRooms holds promise 15.
func TestBatchInGreaterRooms(t *testing.T) {
	random := rand.New(rand.NewSource(33))
	allowed, refused := 0, 0
	for i := range 60 {
		room := busyRoom(random, 7+random.Intn(20))
		if i%3 == 0 {
			room = livelyRoom(random, 5+random.Intn(25))
		}
		before, after := statesAround(room)
		for k, e := range room.Events {
			least := leastRoom(room, e.Id)
			for name, r := range map[string]impl.Room{
				"up to it":                   {Events: room.Events[:k+1]},
				"the whole room":             room,
				"the least room":             least,
				"the first of what follows":  {Events: room.Events[:k+1+random.Intn(len(room.Events)-k)]},
				"between":                    between(random, least, room),
				"the whole in another order": reordered(random, room),
			} {
				checkBatch(t, name, r, e.Id, before[k], after[k], 0)
			}
			if slices.Equal(before[k], after[k]) {
				refused++
			} else {
				allowed++
			}
		}
		other, id := spoiledRoom(random, room), pick(random, idsOf(room)...)
		before2, after2, code := wantedBatch(other, id)
		checkBatch(t, "a spoiled room", other, id, before2, after2, code)
	}
	if allowed < 300 || refused < 200 {
		t.Errorf("too few events of one kind: %d change the state, %d do not", allowed, refused)
	}
}

func TestBatchInBigRooms(t *testing.T) {
	random := rand.New(rand.NewSource(34))
	for name, room := range map[string]impl.Room{"notes": noteRoom(random, impl.MaxEvents), "a crowd": livelyRoom(random, impl.MaxEvents)} {
		for _, i := range []int{0, 1, 2, 50, 150, 298, 299} {
			id := room.Events[i].Id
			before, after, code := impl.Batch(impl.Room{Events: room.Events[:i+1]}, id)
			if code != 0 || !wantedFitsValid(room, before) || !wantedFitsValid(room, after) {
				t.Fatalf("%s: Batch of %q is %v, %v, %d", name, id, before, after, code)
			}
			checkBatch(t, name, room, id, before, after, 0)
			checkBatch(t, name+", the least room", leastRoom(room, id), id, before, after, 0)
		}
	}
}

// TestBatchIsResolve has an event, $x, that is not allowed where it stands but in the chain of one that is: Resolve tries it again, and then it is allowed.
func TestBatchIsResolve(t *testing.T) {
	room := roomOf(
		"$c @a create = 1 - - -",
		"$a @a member =@a 2 $c $c join",
		"$j @a join_rules = 3 $a $c,$a public",
		"$x @b topic = 4 $j $c x",
		"$b @b member =@b 5 $x $c,$j join",
		"$s @b note =k 6 $b $c,$b,$x y",
		"$u @b msg - 7 $b $c,$b -",
		"$m @a msg - 8 $s,$u $c,$a -",
	)
	joined := stateWith(room, idList("$c $a $j $b")...)
	noted := withChange(joined, entry("note", "k", "$s"))
	checkBatch(t, "where it stands", room, "$x", stateWith(room, idList("$c $a $j")...), stateWith(room, idList("$c $a $j")...), 0)
	checkBatch(t, "what rests on it", room, "$s", joined, noted, 0)
	resolved, ok := impl.Resolve(room, [][]impl.Entry{noted, joined})
	if !ok || idAt(resolved, "topic", "") != "$x" {
		t.Fatalf("Resolve is not what the test needs: %v", resolved)
	}
	checkBatch(t, "what joins", room, "$m", resolved, resolved, 0)
}
