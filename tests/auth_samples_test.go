package tests

import (
	"math/rand"
	"slices"
	"strconv"
	"strings"

	"loop.example/s01366/impl"
)

// court is a room of @a's and a state of it that has all its events: the members and what they are, the Value of the join rules, and the Grants
// of the power event ("-" for one without Grants). What is empty is not there.
type court struct {
	members, rules, power string
}

func (c court) room() impl.Room {
	lines := []string{"$c @a create = 1 - - -"}
	for _, member := range strings.Fields(c.members) {
		user, value, _ := strings.Cut(member, "=")
		lines = append(lines, "$m"+user+" "+user+" member ="+user+" 2 $c $c "+value)
	}
	if c.rules != "" {
		lines = append(lines, "$j @a join_rules = 3 $c $c "+c.rules)
	}
	if c.power != "" {
		lines = append(lines, "$p @a power = 4 $c $c "+c.power)
	}
	return roomOf(lines...)
}

func (c court) state() []impl.Entry {
	room := c.room()
	return stateWith(room, idsOf(room)...)
}

func entryFor(e impl.Event) impl.Entry {
	return entry(e.Type, e.Key, e.Id)
}

// stateWith puts the events of these ids, one after the other, into the empty state.
func stateWith(r impl.Room, ids ...string) []impl.Entry {
	var s []impl.Entry
	for _, id := range ids {
		s = withChange(s, entryFor(eventNamed(r, id)))
	}
	return s
}

// without takes a slot out of a state.
func without(s []impl.Entry, kind, key string) []impl.Entry {
	return withChange(s, entry(kind, key, ""))
}

// deed reads an event written as SENDER TYPE KEY VALUE, in the form of an event's text.
func deed(text string) impl.Event {
	f := strings.Fields(text)
	if f[1] == "create" {
		return eventOf("$new " + f[0] + " create = 9 - - -")
	}
	return eventOf("$new " + f[0] + " " + f[1] + " " + f[2] + " 9 $c $c " + f[3])
}

// fewUsers has users whose names do not begin with @ too.
func fewUsers() []string {
	return []string{"@a", "@b", "@c", "d", "@"}
}

// nearGrants are those of a well-formed power event, at levels that are near to each other and to the defaults.
func nearGrants(random *rand.Rand) []impl.Grant {
	names := slices.Concat(fewUsers(), idList("#msg #topic #power #join_rules #ban *ban *kick *invite *act *state *default zz"))
	var grants []impl.Grant
	for _, place := range random.Perm(len(names))[:random.Intn(8)] {
		grants = append(grants, impl.Grant{Name: names[place], Level: pick(random, -1, 0, 0, 1, 49, 50, 50, 51, 100)})
	}
	slices.SortFunc(grants, func(a, b impl.Grant) int { return strings.Compare(a.Name, b.Name) })
	return grants
}

// randomDeed is a well-formed event without Prev and Auth; its Type is any but create.
func randomDeed(random *rand.Rand) impl.Event {
	e := impl.Event{Id: "$new", Sender: pick(random, fewUsers()...), IsState: true, Time: random.Intn(5)}
	switch random.Intn(8) {
	case 0, 1, 2:
		e.Type, e.Key, e.Value = "member", pick(random, e.Sender, pick(random, fewUsers()...)), pick(random, "join", "join", "invite", "leave", "ban", "ban")
	case 3:
		e.Type, e.Value = "join_rules", pick(random, "public", "invite")
	case 4:
		e.Type, e.Grants = "power", nearGrants(random)
	case 5, 6:
		e.Type, e.Key = pick(random, "topic", "ban"), pick(random, "", "k", e.Sender, pick(random, fewUsers()...))
	case 7:
		e.Type, e.IsState = pick(random, "msg", "topic"), false
	}
	return e
}

// regrant makes a few changes to the Grants of an earlier power event, so that rules ask how the two differ.
func regrant(random *rand.Rand, e impl.Event, old impl.Event) impl.Event {
	e.Grants = slices.Clone(old.Grants)
	for range min(len(e.Grants), random.Intn(3)) {
		at := random.Intn(len(e.Grants))
		if random.Intn(3) == 0 {
			e.Grants = slices.Delete(e.Grants, at, at+1)
		} else {
			e.Grants[at].Level += random.Intn(3) - 1
		}
	}
	return e
}

// livelyRoom is a valid room in which events of all kinds rest on what they need, more or less, so that some are allowed and some are not.
func livelyRoom(random *rand.Rand, size int) impl.Room {
	ids := random.Perm(3 * size)
	room := impl.Room{Events: []impl.Event{{Id: "$" + strconv.Itoa(ids[0]), Sender: "@a", Type: "create", IsState: true, Time: random.Intn(5)}}}
	for i := 1; i < size; i++ {
		e := randomDeed(random)
		if i < 5 {
			e = deed([]string{"", "@a member =@a join", "@a power = @a:100,@b:50", "@a join_rules = public", "@b member =@b join"}[i])
		}
		e.Id = "$" + strconv.Itoa(ids[i])
		e.Prev, e.Auth = randomEarlier(random, room.Events), randomAuth(random, room, e)
		if power := lastAt(room, impl.Slot{Type: "power"}); e.Type == "power" && isThere(power) && random.Intn(3) > 0 {
			e = regrant(random, e, power)
		}
		room.Events = append(room.Events, e)
	}
	return room
}

// lastAt is the empty event where the room has none for the slot.
func lastAt(r impl.Room, slot impl.Slot) impl.Event {
	for _, e := range slices.Backward(r.Events) {
		if isAtSlot(e, slot.Type, slot.Key) {
			return e
		}
	}
	return impl.Event{}
}

// randomAuth takes events at the slots that are needed, not always the last ones, and at times one of any kind.
func randomAuth(random *rand.Rand, r impl.Room, e impl.Event) []string {
	var auth []string
	for _, slot := range wantedNeeded(e) {
		seen := impl.Room{Events: r.Events[:pick(random, len(r.Events), len(r.Events), random.Intn(len(r.Events)))]}
		if last := lastAt(seen, slot); isThere(last) && random.Intn(6) > 0 {
			auth = append(auth, last.Id)
		}
	}
	if other := pick(random, r.Events...).Id; (len(auth) == 0 || random.Intn(3) == 0) && !slices.Contains(auth, other) {
		auth = append(auth, other)
	}
	random.Shuffle(len(auth), func(i, k int) { auth[i], auth[k] = auth[k], auth[i] })
	return auth
}

// randomFit is a state that fits the room: for some of its slots one of the events that are for it.
func randomFit(random *rand.Rand, r impl.Room) []impl.Entry {
	share := pick(random, 1, 2, 3, 3, 3)
	var s []impl.Entry
	for _, i := range random.Perm(len(r.Events)) {
		if e := r.Events[i]; e.IsState && random.Intn(4) < share {
			s = withChange(s, entryFor(e))
		}
	}
	return s
}

// likelyFit is a state that fits the room in which an event's Sender most often may do something.
func likelyFit(random *rand.Rand, r impl.Room, e impl.Event) []impl.Entry {
	s := randomFit(random, r)
	if random.Intn(20) > 0 {
		s = withChange(s, entryFor(r.Events[0]))
	}
	for _, member := range r.Events {
		if isAtSlot(member, "member", e.Sender) && member.Value == "join" && random.Intn(4) > 0 {
			s = withChange(s, entryFor(member))
		}
	}
	return s
}

// spoiledFit does one thing to a state that most often leaves it not fitting the room.
func spoiledFit(random *rand.Rand, r impl.Room, s []impl.Entry) []impl.Entry {
	if len(s) == 0 || random.Intn(3) == 0 {
		return spoiledEntries(random, s)
	}
	out := slices.Clone(s)
	at := random.Intn(len(out))
	switch random.Intn(4) {
	case 0:
		out[at].Id = pick(random, idsOf(r)...)
	case 1:
		out[at].Id = "$zz"
	case 2:
		out[at].Key += "z"
	case 3:
		out[at].Type += "z"
	}
	return out
}
