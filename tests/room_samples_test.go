package tests

import (
	"math/rand"
	"reflect"
	"slices"
	"strconv"
	"testing"

	"loop.example/s01366/impl"
)

func eventOf(line string) impl.Event {
	e, code := impl.ParseEvent(line)
	if code != 0 {
		panic("no text of an event: " + line)
	}
	return e
}

func roomOf(lines ...string) impl.Room {
	var room impl.Room
	for _, line := range lines {
		room.Events = append(room.Events, eventOf(line))
	}
	return room
}

// forkedRoom forks at $p, in the branches $b2 $b1 and $x, which $j joins; $s stands alone. Ids do not ascend as the events come.
func forkedRoom() impl.Room {
	return roomOf(
		"$c @a create = 1 - - -",
		"$a @a member =@a 2 $c $c join",
		"$p @a power = 3 $a $c,$a @a:100",
		"$b2 @a topic = 4 $p $p,$a one",
		"$x @b msg - 4 $p $c -",
		"$b1 @a topic = 5 $b2 $b2 two",
		"$j @a msg - 6 $b1,$x $p,$x -",
		"$s @b msg - 7 $p $c -",
	)
}

func createOnly() impl.Room {
	return roomOf("$c @a create = 1 - - -")
}

// lineRoom is valid for up to MaxEvents events: each follows the one before it, and rests on it and on the first one.
func lineRoom(size int) impl.Room {
	room := createOnly()
	for i := 1; i < size; i++ {
		before := room.Events[i-1].Id
		e := impl.Event{Id: "$n" + strconv.Itoa(i), Sender: "@a", Type: "msg", Prev: []string{before}, Auth: []string{before}}
		if i > 1 {
			e.Auth = append(e.Auth, "$c")
		}
		room.Events = append(room.Events, e)
	}
	return room
}

func roomCopy(r impl.Room) impl.Room {
	var events []impl.Event
	for _, e := range r.Events {
		events = append(events, copyOf(e))
	}
	return impl.Room{Events: events}
}

func sameRoom(a, b impl.Room) bool {
	return slices.EqualFunc(a.Events, b.Events, sameEvent)
}

func changedRoom(r impl.Room, change func(r *impl.Room)) impl.Room {
	changed := roomCopy(r)
	change(&changed)
	return changed
}

// badRooms are rooms that are not valid, each for one reason.
func badRooms() map[string]impl.Room {
	rooms := map[string]impl.Room{
		"one event too many":       lineRoom(impl.MaxEvents + 1),
		"many events too many":     lineRoom(2 * impl.MaxEvents),
		"no create":                {Events: forkedRoom().Events[1:]},
		"an empty event":           {Events: []impl.Event{{}}},
		"a first event, no create": {Events: []impl.Event{{Id: "$x", Sender: "@a", Type: "msg"}}},
	}
	change := func(name string, change func(r *impl.Room)) { rooms[name] = changedRoom(forkedRoom(), change) }
	change("the last event twice", func(r *impl.Room) { r.Events = append(r.Events, r.Events[7]) })
	change("the create event twice", func(r *impl.Room) { r.Events = append(r.Events, r.Events[0]) })
	change("two create events", func(r *impl.Room) { r.Events = append(r.Events, eventOf("$d @a create = 1 - - -")) })
	change("an id twice", func(r *impl.Room) { r.Events[7].Id = "$x" })
	change("a create event behind", func(r *impl.Room) { r.Events = append(r.Events[1:], r.Events[0]) })
	change("prev of what comes later", func(r *impl.Room) { r.Events[3], r.Events[5] = r.Events[5], r.Events[3] })
	change("prev of what is not there", func(r *impl.Room) { r.Events[7].Prev = []string{"$zz"} })
	change("auth of what is not there", func(r *impl.Room) { r.Events[7].Auth = []string{"$c", "$zz"} })
	change("prev of itself", func(r *impl.Room) { r.Events[7].Prev = []string{"$s"} })
	change("auth of itself", func(r *impl.Room) { r.Events[7].Auth = []string{"$s"} })
	change("no prev", func(r *impl.Room) { r.Events[4].Prev = nil })
	change("no auth", func(r *impl.Room) { r.Events[4].Auth = nil })
	change("a circle", func(r *impl.Room) { r.Events[1].Auth, r.Events[2].Auth = []string{"$p"}, []string{"$a"} })
	for code, kinds := range faults() {
		for i, fault := range kinds {
			change("code "+strconv.Itoa(code)+" at the end "+strconv.Itoa(i), func(r *impl.Room) { fault(&r.Events[7]) })
			change("code "+strconv.Itoa(code)+" within "+strconv.Itoa(i), func(r *impl.Room) { fault(&r.Events[2]) })
			change("code "+strconv.Itoa(code)+" at the head "+strconv.Itoa(i), func(r *impl.Room) { fault(&r.Events[0]) })
		}
	}
	return rooms
}

// roomy gives a list with room behind its end, where a careless append would write.
func roomy[T any](list []T, behind T) []T {
	longer := append(slices.Clone(list), behind, behind)
	return longer[:len(list)]
}

func roomyEvent(e impl.Event) impl.Event {
	e.Prev, e.Auth, e.Grants = roomy(e.Prev, "behind"), roomy(e.Auth, "behind"), roomy(e.Grants, impl.Grant{Name: "behind"})
	return e
}

func roomyRoom(r impl.Room) impl.Room {
	var events []impl.Event
	for _, e := range r.Events {
		events = append(events, roomyEvent(e))
	}
	return impl.Room{Events: roomy(events, impl.Event{Id: "behind"})}
}

func upToCap[T any](list []T) []T {
	return slices.Clone(list[:cap(list)])
}

// memory is a copy of all the memory that a room has, what lies behind the ends of its lists too.
type memory struct {
	events []impl.Event
	texts  [][]string
	grants [][]impl.Grant
}

func memoryOf(r impl.Room) memory {
	m := memory{events: upToCap(r.Events)}
	for _, e := range m.events {
		m.texts = append(m.texts, upToCap(e.Prev), upToCap(e.Auth))
		m.grants = append(m.grants, upToCap(e.Grants))
	}
	return m
}

// apart writes a mark of its own into all the memory of each list and says whether every list kept its mark: whether no two share any.
func apart[T comparable](lists [][]T, mark func(i int) T) bool {
	for i, list := range lists {
		for k := range list[:cap(list)] {
			list[:cap(list)][k] = mark(i)
		}
	}
	for i, list := range lists {
		for _, kept := range list[:cap(list)] {
			if kept != mark(i) {
				return false
			}
		}
	}
	return true
}

func markText(i int) string {
	return "mark" + strconv.Itoa(i)
}

func markGrant(i int) impl.Grant {
	return impl.Grant{Name: markText(i), Level: i}
}

// overwrite writes over all the memory of an answer and says whether its lists are apart.
func overwrite(r impl.Room) bool {
	var texts [][]string
	var grants [][]impl.Grant
	for _, e := range r.Events {
		texts, grants = append(texts, e.Prev, e.Auth), append(grants, e.Grants)
	}
	free := apart(texts, markText) && apart(grants, markGrant)
	clear(r.Events[:cap(r.Events)])
	return free
}

// checkKept calls ask, and says so when the room's memory is not what it was.
func checkKept(t *testing.T, name string, r impl.Room, ask func()) {
	t.Helper()
	before := memoryOf(r)
	ask()
	if !reflect.DeepEqual(memoryOf(r), before) {
		t.Errorf("%s: the given room was written into", name)
	}
}

func randomEarlier(random *rand.Rand, events []impl.Event) []string {
	window := min(len(events), pick(random, 1, 2, 4, 8, len(events)))
	count := min(window, pick(random, 1, 1, 1, 2, 2, 3, impl.MaxRefs))
	var refs []string
	for _, k := range random.Perm(window)[:count] {
		refs = append(refs, events[len(events)-1-k].Id)
	}
	return refs
}

// randomRoom is a valid room; the order of its ids has nothing to do with that of its events.
func randomRoom(random *rand.Rand, size int) impl.Room {
	ids := random.Perm(3 * size)
	var room impl.Room
	for i := range size {
		e := createEvent()
		if i > 0 {
			e = pick(random, memberEvent(), rulesEvent(), powerEvent(), topicEvent(), messageEvent())
			e.Prev, e.Auth = randomEarlier(random, room.Events), randomEarlier(random, room.Events)
		}
		e.Id, e.Sender, e.Time = "$"+strconv.Itoa(ids[i]), pick(random, "@a", "@b", "@c"), random.Intn(5)
		room.Events = append(room.Events, e)
	}
	return room
}

// reordered gives the events of a valid room in another order in which parents come first.
func reordered(random *rand.Rand, room impl.Room) impl.Room {
	waiting := slices.Clone(room.Events)
	var out impl.Room
	for len(waiting) > 0 {
		var ready []int
		for i, e := range waiting {
			refs := slices.Concat(e.Prev, e.Auth)
			if !slices.ContainsFunc(waiting, func(w impl.Event) bool { return slices.Contains(refs, w.Id) }) {
				ready = append(ready, i)
			}
		}
		at := pick(random, ready...)
		out.Events = append(out.Events, waiting[at])
		waiting = slices.Delete(waiting, at, at+1)
	}
	return roomCopy(out)
}

func idsOf(r impl.Room) []string {
	var ids []string
	for _, e := range r.Events {
		ids = append(ids, e.Id)
	}
	return ids
}

func randomIds(random *rand.Rand, room impl.Room) []string {
	var ids []string
	for range pick(random, 0, 1, 1, 2, 3, 5) {
		ids = append(ids, pick(random, idsOf(room)...))
	}
	return ids
}

func randomSets(random *rand.Rand, room impl.Room) [][]string {
	var sets [][]string
	for range pick(random, 0, 1, 2, 2, 3, 5, impl.MaxSets) {
		sets = append(sets, randomIds(random, room))
	}
	return sets
}
