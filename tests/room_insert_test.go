package tests

import (
	"math/rand"
	"slices"
	"strconv"
	"testing"

	"loop.example/s01366/impl"
)

// checkInsert holds all of Insert's answer against the document: its code, its room, and its memory.
func checkInsert(t *testing.T, name string, given impl.Room, e impl.Event, code int) {
	t.Helper()
	room, event := roomyRoom(given), impl.Room{Events: []impl.Event{roomyEvent(e)}}
	checkKept(t, name, room, func() {
		checkKept(t, name+", the event", event, func() {
			next, got := impl.Insert(room, event.Events[0])
			if got != code {
				t.Errorf("%s: code %d, not %d", name, got, code)
			}
			want := roomCopy(given)
			if got == 0 {
				want.Events = append(want.Events, e)
			}
			if !sameRoom(next, want) {
				t.Errorf("%s: code %d with the room %+v", name, got, next)
			}
			if !overwrite(next) {
				t.Errorf("%s: two lists of the answer share memory", name)
			}
		})
	})
}

// following is an event that the forked room takes.
func following() impl.Event {
	return eventOf("$n @a msg - 9 $j,$s $c,$p hello")
}

func TestInsertCodes(t *testing.T) {
	cases := []struct {
		name   string
		change func(r *impl.Room, e *impl.Event)
		code   int
	}{
		{"as it is", func(r *impl.Room, e *impl.Event) {}, 0},
		{"one ref each", func(r *impl.Room, e *impl.Event) { e.Prev, e.Auth = []string{"$c"}, []string{"$s"} }, 0},
		{"a power event", func(r *impl.Room, e *impl.Event) { *e = eventOf("$n @b power = 9 $j $c @b:1") }, 0},
		{"the sender is no member", func(r *impl.Room, e *impl.Event) { e.Sender = "@z" }, 0},
		{"a slot that is taken", func(r *impl.Room, e *impl.Event) { *e = eventOf("$n @a topic = 9 $j $c x") }, 0},
		{"sender is no word", func(r *impl.Room, e *impl.Event) { e.Sender = "" }, 1},
		{"key without state", func(r *impl.Room, e *impl.Event) { e.Key = "k" }, 2},
		{"time below 0", func(r *impl.Room, e *impl.Event) { e.Time = -1 }, 3},
		{"auth twice", func(r *impl.Room, e *impl.Event) { e.Auth = []string{"$c", "$c"} }, 4},
		{"itself in prev", func(r *impl.Room, e *impl.Event) { e.Prev = []string{"$n"} }, 4},
		{"grants of a message", func(r *impl.Room, e *impl.Event) { e.Grants = []impl.Grant{{Name: "a"}} }, 5},
		{"an id that is there", func(r *impl.Room, e *impl.Event) { e.Id = "$a" }, 6},
		{"the id of one within", func(r *impl.Room, e *impl.Event) { *e = r.Events[4] }, 6},
		{"the id of the last", func(r *impl.Room, e *impl.Event) { *e = r.Events[7] }, 6},
		{"the first once more", func(r *impl.Room, e *impl.Event) { *e = r.Events[0] }, 6},
		{"unknown first in prev", func(r *impl.Room, e *impl.Event) { e.Prev = []string{"$zz", "$j"} }, 7},
		{"unknown last in prev", func(r *impl.Room, e *impl.Event) { e.Prev = []string{"$j", "$zz"} }, 7},
		{"unknown first in auth", func(r *impl.Room, e *impl.Event) { e.Auth = []string{"$zz", "$c"} }, 7},
		{"unknown last in auth", func(r *impl.Room, e *impl.Event) { e.Auth = []string{"$c", "$zz"} }, 7},
		{"alike but for case", func(r *impl.Room, e *impl.Event) { e.Auth = []string{"$C"} }, 7},
		{"no prev, unknown in auth", func(r *impl.Room, e *impl.Event) { e.Prev, e.Auth = nil, []string{"$zz"} }, 7},
		{"no auth, unknown in prev", func(r *impl.Room, e *impl.Event) { e.Prev, e.Auth = []string{"$zz"}, nil }, 7},
		{"refs in the empty room", func(r *impl.Room, e *impl.Event) { r.Events = nil }, 7},
		{"no prev", func(r *impl.Room, e *impl.Event) { e.Prev = nil }, 8},
		{"no auth", func(r *impl.Room, e *impl.Event) { e.Auth = []string{} }, 8},
		{"neither", func(r *impl.Room, e *impl.Event) { e.Prev, e.Auth = nil, nil }, 8},
		{"a second create", func(r *impl.Room, e *impl.Event) { *e = eventOf("$d @a create = 1 - - -") }, 8},
		{"the empty room", func(r *impl.Room, e *impl.Event) { r.Events, e.Prev, e.Auth = nil, nil, nil }, 8},
		{"power in the empty room", func(r *impl.Room, e *impl.Event) { r.Events, *e = nil, eventOf("$n @a power = 9 - - -") }, 8},
		{"create in the empty room", func(r *impl.Room, e *impl.Event) { r.Events, *e = nil, eventOf("$d @a create = 1 - - -") }, 0},
		{"create in an empty list", func(r *impl.Room, e *impl.Event) { r.Events, *e = []impl.Event{}, eventOf("$d @a create = 1 - - -") }, 0},
		{"create with refs in the empty room", func(r *impl.Room, e *impl.Event) { r.Events, e.Type, e.IsState, e.Value = nil, "create", true, "" }, 5},
	}
	for _, c := range cases {
		room, e := forkedRoom(), following()
		c.change(&room, &e)
		checkInsert(t, c.name, room, e, c.code)
		checkInsert(t, c.name+", asked once more", room, e, wantedInsert(room.Events, e))
	}
}

// padded gives a room of that size, behind which stand empty events.
func padded(r impl.Room, size int) impl.Room {
	return impl.Room{Events: append(slices.Clone(r.Events), make([]impl.Event, size-len(r.Events))...)}
}

func TestInsertIntoFullRooms(t *testing.T) {
	for _, size := range []int{impl.MaxEvents - 1, impl.MaxEvents, impl.MaxEvents + 1, 3 * impl.MaxEvents} {
		full := 0
		if size >= impl.MaxEvents {
			full = 9
		}
		name := strconv.Itoa(size) + " events"
		e := following()
		checkInsert(t, name, padded(forkedRoom(), size), e, full)
		e.Prev, e.Auth = []string{"$n1"}, []string{"$c"}
		checkInsert(t, name+" of a line", lineRoom(size), e, full)
		e.Prev = nil
		checkInsert(t, name+", no prev", lineRoom(size), e, 8)
		checkInsert(t, name+", create", lineRoom(size), eventOf("$d @a create = 1 - - -"), 8)
		e.Prev = []string{"$zz"}
		checkInsert(t, name+", unknown", lineRoom(size), e, 7)
		e.Id = "$n1"
		checkInsert(t, name+", the same id", lineRoom(size), e, 6)
		e.Value = "-"
		checkInsert(t, name+", value is no word", lineRoom(size), e, 5)
	}
}

// TestFirstInsertCode lays the faults of an event and those of a room on each other in every choice.
func TestFirstInsertCode(t *testing.T) {
	var counts [10]int
	for choice := range 16 {
		withFaults(following(), 1, 0, func(e impl.Event, first int) {
			room, refs := forkedRoom(), []string{"$c"}
			if choice&8 != 0 {
				room = padded(room, impl.MaxEvents)
				first = lesser(first, 9)
			}
			if choice&4 != 0 {
				refs = nil
				first = lesser(first, 8)
			}
			if choice&2 != 0 {
				refs = append(refs, "$zz")
				first = lesser(first, 7)
			}
			if choice&1 != 0 {
				room.Events = append(room.Events[:len(room.Events)-1], impl.Event{Id: e.Id})
				first = lesser(first, 6)
			}
			if wantedCode(e) != 4 {
				e.Auth = refs
				if choice&4 != 0 {
					e.Prev = nil
				}
			}
			counts[first]++
			if next, got := impl.Insert(room, e); got != first || len(next.Events) != len(room.Events)+zeroToOne(first) {
				t.Errorf("choice %d: code %d, not %d, with %d events: %+v", choice, got, first, len(next.Events), e)
			}
		})
	}
	for code, count := range counts {
		if count == 0 {
			t.Errorf("code %d never came", code)
		}
	}
}

func lesser(first, code int) int {
	if first == 0 {
		return code
	}
	return min(first, code)
}

func zeroToOne(code int) int {
	if code == 0 {
		return 1
	}
	return 0
}

func TestInsertIntoBadRooms(t *testing.T) {
	for name, room := range badRooms() {
		events := []impl.Event{following(), eventOf("$d @a create = 1 - - -"), eventOf("$n @a msg - 1 $c - -"), eventOf("$n @a msg - 1 - - -"), {}}
		for i, old := range room.Events[:min(9, len(room.Events))] {
			e := following()
			e.Id = old.Id
			events = append(events, e)
			e = following()
			e.Prev, e.Auth = []string{old.Id}, []string{room.Events[len(room.Events)-1-i].Id}
			events = append(events, e)
		}
		for _, e := range events {
			checkInsert(t, name, room, e, wantedInsert(room.Events, e))
		}
	}
	twice := impl.Room{Events: []impl.Event{{Id: "$x", Prev: []string{"$zz"}}, {Id: "$x"}}}
	checkInsert(t, "behind an id that is there twice", twice, eventOf("$n @a msg - 1 $x $x -"), 0)
	checkInsert(t, "an id that is there twice", twice, eventOf("$x @a msg - 1 $zz $zz -"), 6)
	checkInsert(t, "a reference of the room that is not there", twice, eventOf("$n @a msg - 1 $zz $x -"), 7)
	checkInsert(t, "the id that the room lacks", twice, eventOf("$zz @a msg - 1 $x $x -"), 0)
	checkInsert(t, "an event without id", impl.Room{Events: []impl.Event{{}}}, eventOf("$n @a msg - 1 $x $x -"), 7)
	checkInsert(t, "create behind an event that is no event", impl.Room{Events: []impl.Event{{}}}, eventOf("$d @a create = 1 - - -"), 8)
}

func TestInsertSharesNothing(t *testing.T) {
	refs := roomy([]string{"$c"}, "$a")
	room := createOnly()
	one := impl.Event{Id: "$1", Sender: "@a", Type: "msg", Prev: refs, Auth: refs}
	two := impl.Event{Id: "$2", Sender: "@a", Type: "msg", Prev: refs, Auth: refs[:1:2]}
	room.Events = append(room.Events, one, one)
	next, code := impl.Insert(room, two)
	if code != 0 || !overwrite(next) {
		t.Errorf("code %d; lists that an argument shares must not be shared in the answer", code)
	}
	if !slices.Equal(refs[:cap(refs)], []string{"$c", "$a", "$a"}[:cap(refs)]) {
		t.Errorf("the argument was written into: %q", refs[:cap(refs)])
	}
	grants := roomy([]impl.Grant{{Name: "a", Level: 1}}, impl.Grant{})
	power := impl.Event{Id: "$p", Sender: "@a", Type: "power", IsState: true, Prev: refs, Auth: refs, Grants: grants}
	again := power
	again.Id = "$q"
	room = createOnly()
	room.Events = append(room.Events, power)
	if next, code := impl.Insert(room, again); code != 0 || !overwrite(next) || grants[0].Name != "a" || grants[:2][1].Name != "" {
		t.Errorf("code %d; grants that an argument shares must not be shared in the answer", code)
	}
}

func checkRoomOk(t *testing.T, name string, r impl.Room, want bool) {
	t.Helper()
	room := roomyRoom(r)
	checkKept(t, name, room, func() {
		if got := impl.RoomOk(room); got != want {
			t.Errorf("%s: RoomOk says %v", name, got)
		}
	})
}

func TestRoomOk(t *testing.T) {
	checkRoomOk(t, "empty", impl.Room{}, true)
	checkRoomOk(t, "empty list", impl.Room{Events: []impl.Event{}}, true)
	for size := range forkedRoom().Events {
		checkRoomOk(t, "first part", impl.Room{Events: forkedRoom().Events[:size+1]}, true)
	}
	for _, size := range []int{1, 2, impl.MaxEvents - 1, impl.MaxEvents} {
		checkRoomOk(t, strconv.Itoa(size), lineRoom(size), true)
	}
	for name, room := range badRooms() {
		checkRoomOk(t, name, room, false)
	}
}

// spoiledRoom may still be valid.
func spoiledRoom(random *rand.Rand, valid impl.Room) impl.Room {
	room := roomCopy(valid)
	i, k := random.Intn(len(room.Events)), random.Intn(len(room.Events))
	switch random.Intn(8) {
	case 0:
		room.Events = slices.Delete(room.Events, i, i+1)
	case 1:
		room.Events[i], room.Events[k] = room.Events[k], room.Events[i]
	case 2:
		room.Events[i].Id = room.Events[k].Id
	case 3:
		room.Events = slices.Insert(room.Events, i, room.Events[k])
	case 4:
		room.Events[i] = spoiled(random, room.Events[i])
	case 5:
		room.Events[i].Prev = pick(random, nil, []string{room.Events[k].Id})
	case 6:
		room.Events[i].Auth = pick(random, nil, []string{room.Events[k].Id})
	}
	return roomCopy(room)
}

func TestRandomInserts(t *testing.T) {
	random := rand.New(rand.NewSource(3))
	var codes [10]int
	var valid [2]int
	for range 6000 {
		room := spoiledRoom(random, randomRoom(random, 2+random.Intn(12)))
		want := wantedRoomOk(room)
		checkRoomOk(t, "random", room, want)
		e := pick(random, memberEvent(), rulesEvent(), powerEvent(), topicEvent(), messageEvent(), createEvent())
		if e.Type != "create" {
			e.Prev, e.Auth = randomEarlier(random, room.Events), randomEarlier(random, room.Events)
		}
		e.Id = pick(random, e.Id, e.Id, room.Events[0].Id)
		e.Prev = pick(random, e.Prev, e.Prev, e.Prev, nil, []string{"$zz"})
		e = pick(random, e, e, spoiled(random, e))
		code := wantedInsert(room.Events, e)
		checkInsert(t, "random", room, e, code)
		if next, _ := impl.Insert(room, e); impl.RoomOk(next) != want {
			t.Errorf("RoomOk is not %v any more after an event with code %d", want, code)
		}
		codes[code]++
		if want {
			valid[zeroToOne(code)]++
		}
	}
	for code, count := range codes[:9] {
		if count < 50 {
			t.Errorf("code %d came only %d times", code, count)
		}
	}
	if valid[0] < 100 || valid[1] < 100 {
		t.Errorf("refused by and taken into valid rooms: %v", valid)
	}
}

// TestInsertedRooms builds a room by Insert alone, up to the last event there may be.
func TestInsertedRooms(t *testing.T) {
	random := rand.New(rand.NewSource(4))
	events := randomRoom(random, impl.MaxEvents+1).Events
	var room impl.Room
	for i, e := range events[:impl.MaxEvents] {
		next, code := impl.Insert(room, e)
		if code != 0 || len(next.Events) != i+1 || !sameEvent(next.Events[i], e) {
			t.Fatalf("event %d: code %d", i, code)
		}
		room = next
	}
	if !sameRoom(room, impl.Room{Events: events[:impl.MaxEvents]}) || !impl.RoomOk(room) {
		t.Errorf("the room is not that of its events, or not valid")
	}
	if next, code := impl.Insert(room, events[impl.MaxEvents]); code != 9 || !sameRoom(next, room) {
		t.Errorf("code %d", code)
	}
}
