package tests

import (
	"math/rand"
	"slices"
	"strings"
	"testing"

	"loop.example/s01366/impl"
)

func checkNeeded(t *testing.T, name string, given impl.Event, want []impl.Slot) {
	t.Helper()
	e := roomyEvent(given)
	checkKept(t, name, impl.Room{Events: []impl.Event{e}}, func() {
		got := impl.Needed(e)
		if !slices.Equal(got, want) {
			t.Errorf("%s: Needed of %v is %v, not %v", name, e, got, want)
		}
		apart([][]impl.Slot{got}, func(i int) impl.Slot { return impl.Slot{Type: "mark"} })
		if again := impl.Needed(e); !slices.Equal(again, want) {
			t.Errorf("%s: Needed of %v hangs on what was done to an answer: %v", name, e, again)
		}
	})
}

func checkLevel(t *testing.T, name string, r impl.Room, given []impl.Entry, user string, want int) {
	t.Helper()
	room, s := roomyRoom(r), roomyEntries(given)
	checkKept(t, name, room, func() {
		checkKeptEntries(t, name, [][]impl.Entry{s}, func() []impl.Entry {
			if got := impl.LevelOf(room, s, user); got != want {
				t.Errorf("%s: LevelOf of %q in %v is %d, not %d", name, user, s, got, want)
			}
			return nil
		})
	})
}

func checkAllowed(t *testing.T, name string, r impl.Room, given []impl.Entry, e impl.Event, want int) {
	t.Helper()
	room, s, event := roomyRoom(r), roomyEntries(given), roomyEvent(e)
	checkKept(t, name, room, func() {
		checkKept(t, name, impl.Room{Events: []impl.Event{event}}, func() {
			checkKeptEntries(t, name, [][]impl.Entry{s}, func() []impl.Entry {
				if got := impl.Allowed(room, s, event); got != want {
					t.Errorf("%s: Allowed of %v in %v is %d, not %d", name, e, s, got, want)
				}
				return nil
			})
		})
	})
}

// slotsOf reads slots written as TYPE/KEY with blanks between.
func slotsOf(text string) []impl.Slot {
	var slots []impl.Slot
	for _, e := range entriesOf(text) {
		slots = append(slots, impl.Slot{Type: e.Type, Key: e.Key})
	}
	return slots
}

func TestNeededSlots(t *testing.T) {
	cases := []struct{ deed, want string }{
		{"@a create = -", "create/"},
		{"@b member =@c join", "create/ join_rules/ member/@b member/@c power/"},
		{"@c member =@b join", "create/ join_rules/ member/@b member/@c power/"},
		{"@b member =@b join", "create/ join_rules/ member/@b power/"},
		{"@b member =@c invite", "create/ member/@b member/@c power/"},
		{"@c member =@b leave", "create/ member/@b member/@c power/"},
		{"@b member =@b leave", "create/ member/@b power/"},
		{"@b member =@c ban", "create/ member/@b member/@c power/"},
		{"@b member =@b ban", "create/ member/@b power/"},
		{"b member =@b invite", "create/ member/@b member/b power/"},
		{"@b join_rules = public", "create/ member/@b power/"},
		{"@b join_rules = invite", "create/ member/@b power/"},
		{"@b power = -", "create/ member/@b power/"},
		{"@b power = @c:1", "create/ member/@b power/"},
		{"@b topic = x", "create/ member/@b power/"},
		{"@b topic =@c x", "create/ member/@b power/"},
		{"@b topic = join", "create/ member/@b power/"},
		{"@b msg - x", "create/ member/@b power/"},
		{"@b msg - join", "create/ member/@b power/"},
		{"power member =create join", "create/ join_rules/ member/create member/power power/"},
	}
	for _, c := range cases {
		checkNeeded(t, c.deed, deed(c.deed), slotsOf(c.want))
	}
	checkNeeded(t, "empty", impl.Event{}, nil)
	for code, kinds := range faults() {
		for _, fault := range kinds {
			for _, e := range samples() {
				bad := copyOf(e)
				fault(&bad)
				if impl.EventOk(bad) != 0 {
					checkNeeded(t, "code "+string(rune('0'+code)), bad, nil)
				}
			}
		}
	}
}

func TestUserLevels(t *testing.T) {
	cases := []struct {
		power, user string
		want        int
	}{
		{"", "@a", 100},
		{"", "@b", 0},
		{"", "", 0},
		{"", "*default", 0},
		{"-", "@a", 0},
		{"-", "@b", 0},
		{"@a:7", "@a", 7},
		{"@a:7", "@b", 0},
		{"@a:7", "@", 0},
		{"@a:7", "@aa", 0},
		{"@a:-7", "@a", -7},
		{"@a:0", "@a", 0},
		{"*default:5", "@a", 5},
		{"*default:5", "@b", 5},
		{"*default:-5,@b:3", "@a", -5},
		{"*default:-5,@b:3", "@b", 3},
		{"*default:5,@b:0", "@b", 0},
		{"*default:5,@b:-9", "@b", -9},
		{"default:5", "@b", 0},
		{"default:5", "default", 5},
		{"#default:5,*state:7,*users:6", "@b", 0},
		{"@a:1,@b:2,@c:3,@d:4", "@a", 1},
		{"@a:1,@b:2,@c:3,@d:4", "@b", 2},
		{"@a:1,@b:2,@c:3,@d:4", "@c", 3},
		{"@a:1,@b:2,@c:3,@d:4", "@d", 4},
		{"@a:1,@b:2,@c:3,@d:4", "@e", 0},
		{"@a:1,@b:2,@c:3,@d:4", "a", 0},
		{"*ban:9", "*ban", 9},
		{"@a:1000000,@b:-1000000", "@a", 1000000},
		{"@a:1000000,@b:-1000000", "@b", -1000000},
	}
	for _, c := range cases {
		here := court{members: "@b=join", power: c.power}
		checkLevel(t, c.power, here.room(), here.state(), c.user, c.want)
	}
	plain := court{members: "@a=join"}
	checkLevel(t, "no create", plain.room(), without(plain.state(), "create", ""), "@a", 0)
	checkLevel(t, "an empty state", plain.room(), nil, "@a", 0)
	checkLevel(t, "an empty room", impl.Room{}, nil, "@a", 0)
	led := court{power: "@a:7,@b:8"}
	checkLevel(t, "power without create", led.room(), without(led.state(), "create", ""), "@b", 8)
	checkLevel(t, "a power event that is not in the state", led.room(), without(led.state(), "power", ""), "@a", 100)
	checkLevel(t, "a power event that is not in the state", led.room(), without(led.state(), "power", ""), "@b", 0)
}

func TestLevelsOfManyGrants(t *testing.T) {
	grants := grantsNamed(numbered("@n", impl.MaxGrants))
	room := createOnly()
	room.Events = append(room.Events, impl.Event{Id: "$p", Sender: "@a", Type: "power", IsState: true, Prev: []string{"$c"}, Auth: []string{"$c"}, Grants: grants})
	for _, g := range grants {
		checkLevel(t, "many", room, stateWith(room, "$c", "$p"), g.Name, g.Level)
		checkLevel(t, "many", room, stateWith(room, "$c", "$p"), g.Name+"x", 0)
	}
}

// misfits are states that do not fit the court they come with, each for one reason; in all of them the event would be allowed and @a have a level.
func misfits(c court) map[string][]impl.Entry {
	change := func(from, to impl.Entry) []impl.Entry {
		return withChange(without(c.state(), from.Type, from.Key), to)
	}
	out := map[string][]impl.Entry{
		"an id that is not there":      withChange(c.state(), entry("topic", "", "$zz")),
		"the create id is not there":   withChange(c.state(), entry("create", "", "$zz")),
		"an event without IsState":     withChange(c.state(), entry("msg", "", "$n")),
		"another type":                 withChange(c.state(), entry("topic", "", "$j")),
		"another type at power":        withChange(c.state(), entry("power", "", "$j")),
		"another key":                  change(entry("member", "@b", ""), entry("member", "@c", "$m@b")),
		"a key where none is":          withChange(c.state(), entry("join_rules", "@b", "$j")),
		"no key where one is":          change(entry("member", "@b", ""), entry("member", "", "$m@b")),
		"an empty id":                  append(c.state(), entry("zz", "", "")),
		"out of order":                 append(c.state(), entry("a", "", "$c")),
		"a slot twice":                 slices.Insert(c.state(), 1, c.state()[0]),
		"one entry too many":           append(c.state(), numberedEntries("z", impl.MaxEntries+1-len(c.state()))...),
		"a type that differs in case":  withChange(c.state(), entry("Power", "", "$p")),
		"an id that differs in a byte": withChange(c.state(), entry("power", "", "$p ")),
	}
	for name, s := range badStates() {
		out[name] = s
	}
	return out
}

func TestWhatIsNotJudged(t *testing.T) {
	here := court{members: "@a=join @b=join", rules: "public", power: "@a:100"}
	room := here.room()
	room.Events = append(room.Events, eventOf("$n @a msg - 5 $c $c -"))
	fine := deed("@a topic = x")
	checkAllowed(t, "as it should be", room, here.state(), fine, 0)
	checkLevel(t, "as it should be", room, here.state(), "@a", 100)
	for name, s := range misfits(here) {
		checkAllowed(t, name, room, s, fine, 99)
		checkAllowed(t, name, room, s, deed("@b create = -"), 99)
		checkLevel(t, name, room, s, "@a", 0)
	}
	for name, bad := range badRooms() {
		checkAllowed(t, name, bad, stateWith(forkedRoom(), "$c", "$a", "$p"), fine, 99)
		checkAllowed(t, name, bad, nil, deed("@a create = -"), 99)
		checkLevel(t, name, bad, stateWith(forkedRoom(), "$c", "$a", "$p"), "@a", 0)
	}
	for _, kinds := range faults() {
		for _, fault := range kinds {
			bad := copyOf(fine)
			fault(&bad)
			checkAllowed(t, "not well formed", room, here.state(), bad, 99)
		}
	}
	checkAllowed(t, "an empty event", room, here.state(), impl.Event{}, 99)
	checkAllowed(t, "nothing fits", impl.Room{Events: make([]impl.Event, 1)}, here.state(), impl.Event{}, 99)
	// The event itself need not fit the room: its Id may be there, its Prev and Auth need not be.
	known := eventOf("$c @a topic = 9 $zz $zz x")
	checkAllowed(t, "an id that is there", room, here.state(), known, 0)
	checkAllowed(t, "a create event in an empty room", impl.Room{}, nil, deed("@a create = -"), 0)
	checkAllowed(t, "any other event in an empty room", impl.Room{}, nil, fine, 2)
}

type judged struct {
	deed, members, rules, power string
	code                        int
}

func checkJudged(t *testing.T, cases []judged) {
	t.Helper()
	for _, c := range cases {
		here := court{members: c.members, rules: c.rules, power: c.power}
		name := strings.Join([]string{c.deed, c.members, c.rules, c.power}, " | ")
		checkAllowed(t, name, here.room(), here.state(), deed(c.deed), c.code)
	}
}

func TestCreateRules(t *testing.T) {
	checkJudged(t, []judged{
		{"@a create = -", "", "", "", 1},
		{"@a create = -", "@a=join", "public", "@a:100", 1},
		{"@b create = -", "@b=ban", "invite", "@b:-1", 1},
	})
	here := court{members: "@a=join @b=ban @c=join", rules: "invite", power: "@a:100"}
	bare := without(here.state(), "create", "")
	checkAllowed(t, "no create", here.room(), bare, deed("@b create = -"), 0)
	checkAllowed(t, "nothing", here.room(), nil, deed("@b create = -"), 0)
	for _, text := range []string{"@a topic = x", "@a msg - x", "@a power = @a:101", "@a join_rules = public", "@a member =@a join", "@b member =@b join",
		"@a member =@b join", "@a member =@a leave", "@b member =@b leave", "@x msg - x", "@a member =@c invite", "@c member =@a ban", "@a topic =@b x"} {
		checkAllowed(t, "no create: "+text, here.room(), bare, deed(text), 2)
		checkAllowed(t, "nothing: "+text, here.room(), nil, deed(text), 2)
	}
}

func TestJoins(t *testing.T) {
	checkJudged(t, []judged{
		{"@b member =@c join", "@b=join @c=join", "public", "", 3},
		{"@b member =@c join", "@b=join @c=ban", "public", "", 3},
		{"@b member =@c join", "", "", "", 3},
		{"@a member =@b join", "@a=join @b=invite", "public", "@a:100", 3},
		{"@b member =@a join", "@b=ban", "invite", "", 3},
		{"@b member =@b join", "@b=ban", "public", "", 4},
		{"@b member =@b join", "@b=ban", "invite", "", 4},
		{"@b member =@b join", "@b=ban", "", "@b:100", 4},
		{"@a member =@a join", "@a=ban", "public", "", 4},
		{"@b member =@b join", "@b=join", "", "", 0},
		{"@b member =@b join", "@b=join", "invite", "", 0},
		{"@b member =@b join", "@b=invite", "", "", 0},
		{"@b member =@b join", "@b=invite", "invite", "", 0},
		{"@b member =@b join", "@b=invite", "invite", "*act:9,*default:-9,*invite:9,*state:9", 0},
		{"@b member =@b join", "", "public", "", 0},
		{"@b member =@b join", "", "public", "#member:9,*default:-9", 0},
		{"@b member =@b join", "@b=leave", "public", "", 0},
		{"@b member =@b join", "", "invite", "", 5},
		{"@b member =@b join", "", "", "", 5},
		{"@b member =@b join", "@b=leave", "", "", 5},
		{"@b member =@b join", "@b=leave", "invite", "", 5},
		{"@b member =@b join", "@a=join @c=invite", "invite", "@b:100", 5},
		{"@a member =@a join", "", "", "", 0},
		{"@a member =@a join", "", "invite", "@b:100", 0},
		{"@a member =@a join", "@b=join", "invite", "*default:-1", 0},
		{"@a member =@a join", "@a=join", "invite", "", 0},
		{"@a member =@a join", "@a=invite", "", "", 0},
		{"@a member =@a join", "@a=leave", "", "", 5},
		{"@a member =@a join", "@a=leave", "invite", "@a:100", 5},
		{"@a member =@a join", "@a=leave", "public", "", 0},
		{"b member =b join", "b=invite", "", "", 0},
	})
}

func TestOwnLeaves(t *testing.T) {
	checkJudged(t, []judged{
		{"@b member =@b leave", "@b=join", "", "", 0},
		{"@b member =@b leave", "@b=invite", "", "", 0},
		{"@b member =@b leave", "@b=join", "", "*ban:100,*default:-1,*kick:100", 0},
		{"@b member =@b leave", "@b=invite", "invite", "-", 0},
		{"@b member =@b leave", "@b=leave", "", "", 10},
		{"@b member =@b leave", "@b=leave", "public", "@b:100", 10},
		{"@b member =@b leave", "@b=ban", "", "", 10},
		{"@b member =@b leave", "@b=ban", "", "@b:100", 10},
		{"@b member =@b leave", "", "", "", 10},
		{"@a member =@a leave", "", "public", "", 10},
	})
}

func TestOutsiders(t *testing.T) {
	checkJudged(t, []judged{
		{"@b msg - x", "", "", "", 6},
		{"@b msg - x", "@b=leave", "", "", 6},
		{"@b msg - x", "@b=invite", "public", "", 6},
		{"@b msg - x", "@b=ban", "", "@b:100", 6},
		{"@b msg - x", "@a=join", "", "", 6},
		{"@b msg - x", "@b=join", "", "", 0},
		{"@a msg - x", "@b=join", "", "", 6},
		{"@b member =@c invite", "@b=invite @c=leave", "", "", 6},
		{"@b member =@c invite", "@b=leave @c=ban", "", "", 6},
		{"@b member =@c ban", "@c=join", "", "", 6},
		{"@b member =@a ban", "@b=invite @a=join", "", "@a:100", 6},
		{"@b member =@b ban", "@b=ban", "", "", 6},
		{"@b member =@b invite", "", "", "", 6},
		{"@b member =@c leave", "@b=ban @c=join", "", "@b:100", 6},
		{"@b member =@c leave", "@c=join", "", "", 6},
		{"@b power = @b:9", "@a=join", "", "@a:100", 6},
		{"@b topic =@c x", "@a=join @c=join", "", "@a:100", 6},
		{"@b join_rules = public", "", "public", "", 6},
	})
}

func TestInvites(t *testing.T) {
	checkJudged(t, []judged{
		{"@b member =@c invite", "@b=join", "", "", 0},
		{"@b member =@c invite", "@b=join @c=leave", "invite", "", 0},
		{"@b member =@c invite", "@b=join @c=invite", "", "", 0},
		{"@b member =@c invite", "@b=join @c=join", "", "", 7},
		{"@b member =@c invite", "@b=join @c=ban", "", "", 7},
		{"@b member =@c invite", "@b=join @c=ban", "", "*invite:1", 7},
		{"@b member =@c invite", "@b=join @c=join", "", "@b:-1", 7},
		{"@b member =@b invite", "@b=join", "", "", 7},
		{"@b member =@c invite", "@b=join", "", "-", 0},
		{"@b member =@c invite", "@b=join", "", "@b:-1", 8},
		{"@b member =@c invite", "@b=join", "", "*default:-1", 8},
		{"@b member =@c invite", "@b=join", "", "*invite:1", 8},
		{"@b member =@c invite", "@b=join", "", "*invite:1,@b:1", 0},
		{"@b member =@c invite", "@b=join", "", "*default:1,*invite:1", 0},
		{"@b member =@c invite", "@b=join", "", "*default:2,*invite:1,@b:0", 8},
		{"@b member =@c invite", "@b=join", "", "*invite:-5,@b:-5", 0},
		{"@b member =@c invite", "@b=join", "", "*invite:-5,@b:-6", 8},
		{"@b member =@c invite", "@b=join", "", "@c:100", 0},
		{"@b member =@c invite", "@b=join", "", "#member:9,*act:9,*ban:9,*kick:9,*state:9", 0},
		{"@b member =@c invite", "@b=join", "", "#invite:9", 0},
	})
}

func TestBans(t *testing.T) {
	checkJudged(t, []judged{
		{"@a member =@b ban", "@a=join", "", "", 0},
		{"@a member =@b ban", "@a=join @b=join", "", "", 0},
		{"@a member =@b ban", "@a=join @b=ban", "", "", 0},
		{"@a member =@b ban", "@a=join @b=invite", "", "", 0},
		{"@a member =@a ban", "@a=join", "", "", 9},
		{"@b member =@c ban", "@b=join", "", "", 8},
		{"@b member =@a ban", "@b=join", "", "", 8},
		{"@a member =@b ban", "@a=join", "", "-", 8},
		{"@a member =@b ban", "@a=join", "", "@b:60", 8},
		{"@b member =@c ban", "@b=join", "", "@b:50", 0},
		{"@b member =@c ban", "@b=join", "", "@b:49", 8},
		{"@b member =@c ban", "@b=join", "", "@b:50,@c:49", 0},
		{"@b member =@c ban", "@b=join", "", "@b:50,@c:50", 9},
		{"@b member =@c ban", "@b=join", "", "@b:50,@c:51", 9},
		{"@b member =@c ban", "@b=join", "", "@b:49,@c:50", 8},
		{"@b member =@c ban", "@b=join", "", "*ban:10,@b:10", 0},
		{"@b member =@c ban", "@b=join", "", "*ban:10,@b:9", 8},
		{"@b member =@c ban", "@b=join", "", "*ban:60,@b:59", 8},
		{"@b member =@c ban", "@b=join", "", "*ban:10,*default:10,@b:10", 9},
		{"@b member =@c ban", "@b=join", "", "*ban:10,*default:10", 9},
		{"@b member =@c ban", "@b=join", "", "*ban:0", 9},
		{"@b member =@c ban", "@b=join", "", "*ban:-1,@c:-1", 0},
		{"@b member =@c ban", "@b=join @c=ban", "", "*ban:-1,@c:-1", 0},
		{"@b member =@c ban", "@b=join", "", "#ban:90,#member:90,*act:90,*kick:90,*state:90,@b:50", 0},
	})
}

func TestOthersLeaves(t *testing.T) {
	checkJudged(t, []judged{
		{"@a member =@b leave", "@a=join @b=join", "", "", 0},
		{"@a member =@b leave", "@a=join @b=ban", "", "", 0},
		{"@a member =@b leave", "@a=join", "", "", 0},
		{"@b member =@c leave", "@b=join @c=join", "", "", 8},
		{"@b member =@a leave", "@b=join @a=join", "", "", 8},
		{"@a member =@b leave", "@a=join @b=join", "", "-", 8},
		{"@b member =@c leave", "@b=join @c=join", "", "@b:50", 0},
		{"@b member =@c leave", "@b=join @c=join", "", "@b:49", 8},
		{"@b member =@c leave", "@b=join @c=join", "", "*kick:10,@b:10", 0},
		{"@b member =@c leave", "@b=join @c=join", "", "*kick:10,@b:9", 8},
		{"@b member =@c leave", "@b=join @c=join", "", "*kick:60,@b:59", 8},
		{"@b member =@c leave", "@b=join @c=join", "", "@b:50,@c:49", 0},
		{"@b member =@c leave", "@b=join @c=join", "", "@b:50,@c:50", 9},
		{"@b member =@c leave", "@b=join @c=join", "", "@b:49,@c:50", 8},
		{"@b member =@c leave", "@b=join @c=join", "", "*ban:60,@b:50", 0},
		{"@b member =@c leave", "@b=join @c=invite", "", "*ban:60,@b:50", 0},
		{"@b member =@c leave", "@b=join @c=leave", "", "*ban:60,@b:50", 0},
		{"@b member =@c leave", "@b=join", "", "*ban:60,@b:50", 0},
		{"@b member =@c leave", "@b=join @c=ban", "", "*ban:60,@b:50", 8},
		{"@b member =@c leave", "@b=join @c=ban", "", "*ban:60,@b:60", 0},
		{"@b member =@c leave", "@b=join @c=ban", "", "*ban:60,@b:60,@c:60", 9},
		{"@b member =@c leave", "@b=join @c=ban", "", "*ban:60,@b:59,@c:60", 8},
		{"@b member =@c leave", "@b=join @c=ban", "", "*ban:10,@b:10", 8},
		{"@b member =@c leave", "@b=join @c=ban", "", "*kick:10,@b:10", 8},
		{"@b member =@c leave", "@b=join @c=ban", "", "*ban:10,*kick:10,@b:10", 0},
		{"@b member =@c leave", "@b=join @c=ban", "", "@b:50", 0},
		{"@b member =@c leave", "@b=join @c=ban", "", "@b:49", 8},
		{"@b member =@c leave", "@b=join @c=join", "", "*default:10,*kick:10", 9},
		{"@b member =@c leave", "@b=join @c=join", "", "*kick:-1,@c:-1", 0},
		{"@b member =@c leave", "@b=join @c=join", "", "#member:90,*act:90,*invite:90,*state:90,@b:50", 0},
	})
}

func TestOtherEvents(t *testing.T) {
	checkJudged(t, []judged{
		{"@b msg - x", "@b=join", "", "-", 0},
		{"@b msg - x", "@b=join", "", "@b:-1", 8},
		{"@b msg - x", "@b=join", "", "*default:-1", 8},
		{"@b msg - x", "@b=join", "", "*act:1", 8},
		{"@b msg - x", "@b=join", "", "*act:1,@b:1", 0},
		{"@b msg - x", "@b=join", "", "*act:1,*default:1", 0},
		{"@b msg - x", "@b=join", "", "*act:-3,@b:-3", 0},
		{"@b msg - x", "@b=join", "", "#msg:1", 8},
		{"@b msg - x", "@b=join", "", "#msg:1,@b:1", 0},
		{"@b msg - x", "@b=join", "", "#msg:0,*act:1", 0},
		{"@b msg - x", "@b=join", "", "#msg:5,*act:1,@b:4", 8},
		{"@b msg - x", "@b=join", "", "#msg:-1,@b:-1", 0},
		{"@b msg - x", "@b=join", "", "#ms:9,#msgs:9,*msg:9,msg:9", 0},
		{"@b msg - x", "@b=join", "", "*ban:9,*invite:9,*kick:9,*state:100", 0},
		{"@b ban - x", "@b=join", "", "*ban:100", 0},
		{"@b ban - x", "@b=join", "", "#ban:1", 8},
		{"@b topic - x", "@b=join", "", "*state:1", 0},
		{"@b topic - x", "@b=join", "", "*act:1", 8},
		{"@b topic - x", "@b=join", "", "-", 0},
		{"@b topic = x", "@b=join", "", "", 0},
		{"@b topic =k x", "@b=join", "invite", "", 0},
		{"@b topic = x", "@b=join", "", "-", 8},
		{"@a topic = x", "@a=join", "", "-", 8},
		{"@b topic = x", "@b=join", "", "@b:50", 0},
		{"@b topic = x", "@b=join", "", "@b:49", 8},
		{"@b topic = x", "@b=join", "", "*default:50", 0},
		{"@b topic = x", "@b=join", "", "*state:0", 0},
		{"@b topic = x", "@b=join", "", "*state:51,@b:50", 8},
		{"@b topic = x", "@b=join", "", "#topic:0", 0},
		{"@b topic = x", "@b=join", "", "#topic:0,*state:100", 0},
		{"@b topic = x", "@b=join", "", "#topic:60,*state:0,@b:59", 8},
		{"@b topic = x", "@b=join", "", "#topic:5,@b:5", 0},
		{"@b topic = x", "@b=join", "", "*act:100,*state:5,@b:5", 0},
		{"@b join_rules = public", "@b=join", "", "", 0},
		{"@b join_rules = public", "@b=join", "invite", "-", 8},
		{"@b join_rules = public", "@b=join", "", "#join_rules:0", 0},
		{"@b join_rules = invite", "@b=join", "", "@b:50", 0},
	})
}

func TestKeysOfUsers(t *testing.T) {
	checkJudged(t, []judged{
		{"@b topic =@c x", "@b=join", "", "", 11},
		{"@b topic =@c x", "@b=join @c=join", "", "@b:49", 8},
		{"@b topic =@c x", "@b=join @c=join", "", "@b:50", 11},
		{"@b topic =@b x", "@b=join", "", "@b:50", 0},
		{"@b topic =@b x", "@b=join", "", "@b:49", 8},
		{"@b topic =@b x", "@b=join", "", "", 0},
		{"@b topic =@ x", "@b=join", "", "", 11},
		{"@ topic =@ x", "@=join", "", "", 0},
		{"@b topic =@b@ x", "@b=join", "", "", 11},
		{"@b topic =c@ x", "@b=join", "", "", 0},
		{"@b topic =$@c x", "@b=join", "", "", 0},
		{"b topic =@b x", "b=join", "", "", 11},
		{"b topic =b x", "b=join", "", "", 0},
		{"b topic =c x", "b=join", "", "", 0},
		{"@a topic =@b x", "@a=join", "", "@a:1000000", 11},
		{"@b topic = @c", "@b=join", "", "", 0},
	})
}

// TestNewGrants has @b, at level 50, send a power event where the old one is as said.
func TestNewGrants(t *testing.T) {
	old := "#topic:50,*ban:50,*kick:51,@a:100,@b:50,@c:50,@d:49,@e:10"
	cases := []struct {
		grants string
		code   int
	}{
		{old, 0},
		// Grants that come in.
		{old + ",@f:50", 0},
		{old + ",@f:51", 12},
		{old + ",@f:-1000", 0},
		{old + ",zeta:50", 0},
		{old + ",zeta:51", 12},
		{"#msg:50," + old, 0},
		{"#msg:51," + old, 12},
		// Grants that go out.
		{"*ban:50,*kick:51,@a:100,@b:50,@c:50,@d:49,@e:10", 0},
		{"#topic:50,*kick:51,@a:100,@b:50,@c:50,@d:49,@e:10", 0},
		{"#topic:50,*ban:50,@a:100,@b:50,@c:50,@d:49,@e:10", 12},
		{"#topic:50,*ban:50,*kick:51,@b:50,@c:50,@d:49,@e:10", 12},
		{"#topic:50,*ban:50,*kick:51,@a:100,@c:50,@d:49,@e:10", 0},
		{"#topic:50,*ban:50,*kick:51,@a:100,@b:50,@d:49,@e:10", 12},
		{"#topic:50,*ban:50,*kick:51,@a:100,@b:50,@c:50,@e:10", 0},
		{"#topic:50,*ban:50,*kick:51,@a:100,@b:50,@c:50,@d:49", 0},
		// Grants that change.
		{strings.Replace(old, "#topic:50", "#topic:51", 1), 12},
		{strings.Replace(old, "#topic:50", "#topic:0", 1), 0},
		{strings.Replace(old, "*ban:50", "*ban:51", 1), 12},
		{strings.Replace(old, "*ban:50", "*ban:49", 1), 0},
		{strings.Replace(old, "*kick:51", "*kick:50", 1), 12},
		{strings.Replace(old, "*kick:51", "*kick:52", 1), 12},
		{strings.Replace(old, "@a:100", "@a:50", 1), 12},
		{strings.Replace(old, "@a:100", "@a:101", 1), 12},
		{strings.Replace(old, "@b:50", "@b:51", 1), 12},
		{strings.Replace(old, "@b:50", "@b:49", 1), 0},
		{strings.Replace(old, "@b:50", "@b:-50", 1), 0},
		{strings.Replace(old, "@c:50", "@c:49", 1), 12},
		{strings.Replace(old, "@c:50", "@c:51", 1), 12},
		{strings.Replace(old, "@d:49", "@d:50", 1), 0},
		{strings.Replace(old, "@d:49", "@d:51", 1), 12},
		{strings.Replace(old, "@d:49", "@d:0", 1), 0},
		{strings.Replace(old, "@e:10", "@e:50", 1), 0},
		// Several at once.
		{strings.Replace(old, "@e:10", "@e:50", 1) + ",@f:50,@g:51", 12},
		{strings.Replace(old, "@d:49", "@d:48", 1) + ",@f:50", 0},
		{"@a:100", 12},
		{"-", 12},
	}
	for _, c := range cases {
		checkJudged(t, []judged{{"@b power = " + c.grants, "@b=join", "", old, c.code}})
	}
}

func TestGrantsAtOtherLevels(t *testing.T) {
	checkJudged(t, []judged{
		// No old event at power: neither rule asks the new one's Grants.
		{"@b power = @b:1000", "@b=join", "", "", 0},
		{"@b power = *ban:1000,@a:-5", "@b=join", "public", "", 0},
		// The level that a power event needs comes first.
		{"@b power = @b:1000", "@b=join", "", "@a:100,@b:49", 8},
		{"@b power = -", "@b=join", "", "-", 8},
		{"@b power = @b:1", "@b=join", "", "*state:0", 12},
		{"@b power = *state:0,@b:0", "@b=join", "", "*state:0", 0},
		{"@b power = @b:50", "@b=join", "", "#power:50,*state:0,@b:49", 8},
		// By the default, the Sender has a level without a Grant.
		{"@b power = *default:50,@b:50", "@b=join", "", "*default:50", 0},
		{"@b power = *default:50,@b:51", "@b=join", "", "*default:50", 12},
		{"@b power = *default:49", "@b=join", "", "*default:50", 0},
		{"@b power = -", "@b=join", "", "*default:50", 0},
		{"@b power = -", "@b=join", "", "*default:50,@c:50", 12},
		{"@b power = -", "@b=join", "", "*default:50,@c:49", 0},
		// A Grant of 0 is not the same as none.
		{"@b power = #power:0", "@b=join", "", "#power:0,@f:0", 12},
		{"@b power = #power:0,@f:0", "@b=join", "", "#power:0,@f:0", 0},
		{"@b power = #power:0,@f:0", "@b=join", "", "#power:0", 0},
		{"@b power = #power:-1,@b:-1,@f:0", "@b=join", "", "#power:-1,@b:-1", 12},
		{"@b power = #power:-1,@b:-1", "@b=join", "", "#power:-1,@b:-1,@f:0", 12},
		{"@b power = #power:-5,@b:-5,@f:-5", "@b=join", "", "#power:-5,@b:-5", 0},
		{"@b power = #power:-5,@b:-5,@f:-4", "@b=join", "", "#power:-5,@b:-5", 12},
		// Names that are words of other make than users'.
		{"zeta power = #power:5,zeta:5", "zeta=join", "", "#power:5,b:5,zeta:5", 12},
		{"zeta power = #power:5,zeta:5", "zeta=join", "", "#power:5,b:4,zeta:5", 0},
		{"zeta power = #power:5,b:5", "zeta=join", "", "#power:5,b:5,zeta:5", 0},
		{"zeta power = #power:5,zeta:5", "zeta=join", "", "#power:5,#zeta:5,*zeta:5,zeta:5", 0},
		// The new event does not count for the Sender's own level.
		{"@b power = @a:100,@b:100", "@b=join", "", "@a:100,@b:50", 12},
		{"@b power = *state:100,@b:100", "@b=join", "", "@b:100", 0},
	})
}

// TestRandomAllowed holds promise 10 at random rooms, states and events, fitting ones and others.
func TestRandomAllowed(t *testing.T) {
	random := rand.New(rand.NewSource(14))
	codes := map[int]int{}
	for range 5000 {
		room := livelyRoom(random, 1+random.Intn(30))
		e := randomEventFor(random, room)
		s := pick(random, randomFit(random, room), likelyFit(random, room, e), likelyFit(random, room, e))
		switch random.Intn(20) {
		case 0:
			s = spoiledFit(random, room, s)
		case 1:
			room = spoiledRoom(random, room)
		case 2:
			e = spoiled(random, e)
		}
		code := wantedAllowed(room, s, e)
		codes[code]++
		checkAllowed(t, "random", room, s, e, code)
		checkNeeded(t, "random", e, wantedNeeded(e))
		user := pick(random, append(fewUsers(), "*default", "zz")...)
		checkLevel(t, "random", room, s, user, wantedLevelOf(room, s, user))
		if code != 99 {
			checkNeededAlone(t, random, room, s, e, code)
		}
	}
	for _, code := range []int{0, 1, 2, 3, 4, 5, 6, 7, 8, 9, 10, 11, 12, 99} {
		if codes[code] < 20 {
			t.Errorf("code %d came too seldom: %v", code, codes)
		}
	}
}

// randomEventFor is at times an event of the room, or a power event near to one of its.
func randomEventFor(random *rand.Rand, r impl.Room) impl.Event {
	e := randomDeed(random)
	switch power := lastAt(r, impl.Slot{Type: "power"}); {
	case random.Intn(8) == 0:
		e = pick(random, r.Events...)
	case e.Type == "power" && isThere(power):
		e = regrant(random, e, power)
	}
	return e
}

// checkNeededAlone asks again where all slots but those of Needed are other ones.
func checkNeededAlone(t *testing.T, random *rand.Rand, r impl.Room, s []impl.Entry, e impl.Event, code int) {
	t.Helper()
	var alone []impl.Entry
	others := randomFit(random, r)
	for _, slot := range impl.Needed(e) {
		at := entry(slot.Type, slot.Key, idAt(s, slot.Type, slot.Key))
		others = withChange(others, at)
		alone = withChange(alone, at)
	}
	checkAllowed(t, "the slots of Needed alone", r, alone, e, code)
	checkAllowed(t, "other slots", r, others, e, code)
}
