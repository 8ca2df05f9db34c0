package tests

import (
	"math/rand"
	"reflect"
	"slices"
	"strconv"
	"testing"

	"loop.example/s01366/impl"
)

func roomyStates(states [][]impl.Entry) [][]impl.Entry {
	var out [][]impl.Entry
	for _, s := range states {
		out = append(out, roomyEntries(s))
	}
	return roomy(out, entriesOf("behind/=behind"))
}

func memoryOfStates(states [][]impl.Entry) [][]impl.Entry {
	out := upToCap(states)
	for i, s := range out {
		out[i] = upToCap(s)
	}
	return out
}

// checkKeptStates calls ask, and says so when the states' memory is not what it was.
func checkKeptStates(t *testing.T, name string, states [][]impl.Entry, ask func()) {
	t.Helper()
	before := memoryOfStates(states)
	ask()
	if !reflect.DeepEqual(before, memoryOfStates(states)) {
		t.Errorf("%s: the given states were written into, or an answer shares their memory", name)
	}
}

// checkKeptIds calls ask, writes over all the memory of its answer, and says so when the ids' memory is not what it was.
func checkKeptIds(t *testing.T, name string, ids []string, ask func() []string) {
	t.Helper()
	before := upToCap(ids)
	apart([][]string{ask()}, markText)
	if !slices.Equal(before, upToCap(ids)) {
		t.Errorf("%s: the given ids were written into, or an answer shares their memory", name)
	}
}

func checkSplit(t *testing.T, name string, given [][]impl.Entry, same []impl.Entry, others []string, wantOk bool) {
	t.Helper()
	states := roomyStates(given)
	checkKeptStates(t, name, states, func() {
		gotSame, gotOthers, ok := impl.Split(states)
		if ok != wantOk || !slices.Equal(gotSame, same) || !slices.Equal(gotOthers, others) {
			t.Errorf("%s: Split of %v is %v, %q, %v; not %v, %q, %v", name, given, gotSame, gotOthers, ok, same, others, wantOk)
		}
		apart([][]impl.Entry{gotSame}, markEntry)
		apart([][]string{gotOthers}, markText)
	})
}

func checkConflicted(t *testing.T, name string, r impl.Room, given [][]impl.Entry, want []string, wantOk bool) {
	t.Helper()
	room, states := roomyRoom(r), roomyStates(given)
	checkKept(t, name, room, func() {
		checkKeptStates(t, name, states, func() {
			got, ok := impl.Conflicted(room, states)
			if ok != wantOk || !slices.Equal(got, want) {
				t.Errorf("%s: Conflicted of %v is %q, %v; not %q, %v", name, given, got, ok, want, wantOk)
			}
			apart([][]string{got}, markText)
		})
	})
}

func checkPowerOrder(t *testing.T, name string, r impl.Room, given []string, want []string, wantOk bool) {
	t.Helper()
	room, ids := roomyRoom(r), roomy(given, "behind")
	checkKept(t, name, room, func() {
		checkKeptIds(t, name, ids, func() []string {
			got, ok := impl.PowerOrder(room, ids)
			if ok != wantOk || !slices.Equal(got, want) {
				t.Errorf("%s: PowerOrder of %q is %q, %v; not %q, %v", name, given, got, ok, want, wantOk)
			}
			return got
		})
	})
}

func checkMainline(t *testing.T, name string, r impl.Room, id string, want []string, wantOk bool) {
	t.Helper()
	room := roomyRoom(r)
	checkKept(t, name, room, func() {
		got, ok := impl.Mainline(room, id)
		if ok != wantOk || !slices.Equal(got, want) {
			t.Errorf("%s: Mainline of %q is %q, %v; not %q, %v", name, id, got, ok, want, wantOk)
		}
		apart([][]string{got}, markText)
	})
}

func checkMainOrder(t *testing.T, name string, r impl.Room, given []string, power string, want []string, wantOk bool) {
	t.Helper()
	room, ids := roomyRoom(r), roomy(given, "behind")
	checkKept(t, name, room, func() {
		checkKeptIds(t, name, ids, func() []string {
			got, ok := impl.MainOrder(room, ids, power)
			if ok != wantOk || !slices.Equal(got, want) {
				t.Errorf("%s: MainOrder of %q by %q is %q, %v; not %q, %v", name, given, power, got, ok, want, wantOk)
			}
			return got
		})
	})
}

func checkResolve(t *testing.T, name string, r impl.Room, given [][]impl.Entry, want []impl.Entry, wantOk bool) {
	t.Helper()
	room, states := roomyRoom(r), roomyStates(given)
	checkKept(t, name, room, func() {
		checkKeptStates(t, name, states, func() {
			got, ok := impl.Resolve(room, states)
			if ok != wantOk || !slices.Equal(got, want) {
				t.Errorf("%s: Resolve of %v is %v, %v; not %v, %v", name, given, got, ok, want, wantOk)
			}
			apart([][]impl.Entry{got}, markEntry)
		})
	})
}

// orderRoom has events that are weighty and others, by authors of several levels, with their powers at several places of their Auths.
func orderRoom() impl.Room {
	return roomOf(
		"$c @a create = 1 - - -",
		"$a @a member =@a 2 $c $c join",
		"$p1 @a power = 3 $a $c,$a *ban:90,@a:100,@b:50,@c:50",
		"$b @b member =@b 4 $p1 $c,$p1 join",
		"$t @b topic = 4 $b $p1,$b x",
		"$k1 @b member =@c 9 $b $c,$p1,$b ban",
		"$k2 @c member =@d 8 $b $c,$p1 leave",
		"$k3 @c member =@e 8 $b $c,$p1 leave",
		"$k4 @a member =@d 9 $b $p1 ban",
		"$k5 @d member =@d 1 $b $p1 leave",
		"$i @a member =@d 1 $b $p1 invite",
		"$j1 @d join_rules = 1 $b $c public",
		"$j2 @a join_rules = 7 $b $c invite",
		"$p2 @b power = 10 $k1 $k1,$p1 *default:70,@b:60",
		"$m @a msg - 5 $b $j1,$p1 -",
		"$p4 @a power = 5 $m $m,$p1 @a:99",
		"$w1 @b member =@z 5 $p2 $p2,$p1 ban",
		"$w2 @b member =@z 5 $p2 $p1,$p2 ban",
		"$w3 @z member =@y 5 $p2 $c,$p2 leave",
		"$w4 @z member =@y 5 $p2 $c,$p4 leave",
		"$w5 @a member =@y 5 $p2 $p2 leave",
		"$w6 @x member =@x 5 $p2 $p2 ban",
	)
}

// lineOfPowers has the mainline $p3 $p2 $p1 and power events outside of it: $s2 and $s1 come to it at $p1, $o2 and $o1 do not.
func lineOfPowers() impl.Room {
	return roomOf(
		"$c @a create = 1 - - -",
		"$p1 @a power = 5 $c $c -",
		"$o1 @a power = 6 $c $c -",
		"$p2 @a power = 7 $p1 $c,$p1 -",
		"$s1 @a power = 2 $p1 $p1,$p2 -",
		"$o2 @a power = 2 $o1 $o1 -",
		"$p3 @a power = 8 $p2 $p2,$p1,$s1 -",
		"$s2 @a power = 3 $s1 $s1,$p2 -",
		"$e0 @b msg - 5 $p3 $p3,$p1 -",
		"$e1 @b msg - 5 $p3 $c,$p2,$p3 -",
		"$e2 @b msg - 5 $p3 $p1 -",
		"$e3 @b msg - 5 $p3 $c -",
		"$f2 @b msg - 4 $p3 $s2,$p3 -",
		"$f3 @b msg - 4 $p3 $o2,$p3 -",
		"$g3 @b topic = 4 $p3 $e0 x",
	)
}

// powerLine has one line of power events, each the power of the next.
func powerLine(size int) impl.Room {
	room := createOnly()
	for i := 1; i < size; i++ {
		before := room.Events[i-1].Id
		e := impl.Event{Id: "$n" + strconv.Itoa(i), Sender: "@a", Type: "power", IsState: true, Prev: []string{before}, Auth: []string{before}}
		room.Events = append(room.Events, e)
	}
	return room
}

// townRoom has a base of members, power and rules, and events above it to be taken into states or not.
func townRoom() impl.Room {
	return roomOf(
		"$c @a create = 1 - - -",
		"$a @a member =@a 2 $c $c join",
		"$p @a power = 3 $a $c,$a #note:0,@a:100,@b:50",
		"$j @a join_rules = 4 $p $c,$a,$p public",
		"$b @b member =@b 5 $j $c,$p,$j join",
		"$d @d member =@d 6 $b $c,$p,$j join",
		"$t1 @b topic = 7 $d $c,$p,$b one",
		"$t2 @a topic = 8 $d $c,$p,$a two",
		"$t3 @d topic = 9 $d $c,$p,$d three",
		"$k @a member =@b 10 $d $c,$p,$a,$b ban",
		"$q1 @a power = 11 $d $c,$p,$a @a:100,@b:0",
		"$q2 @b power = 12 $d $c,$p,$b #note:0,@a:100,@b:50,@d:40",
		"$m @b msg - 13 $d $c,$p,$b hi",
		"$t4 @b topic = 14 $m $c,$p,$b,$m four",
		"$e1 @e member =@e 15 $d $c,$p,$j join",
		"$e2 @e member =@e 16 $e1 $c,$p,$e1 leave",
		"$n0 @e note =0 17 $e1 $c,$p,$e1,$e2 x",
		"$n1 @e note =1 17 $e1 $c,$p,$e1,$e2 x",
		"$n2 @e note =2 18 $e1 $c,$p,$e2,$e1 x",
		"$z @b note =9 19 $t1 $c,$p,$b,$t1 x",
		"$y @a note =8 20 $q1 $c,$p,$a,$q1 x",
		"$t5 @a topic = 21 $q1 $c,$q1,$a five",
		"$t6 @a topic = 30 $q1 $c,$p,$a six",
		"$t7 @b topic = 7 $d $c,$p,$b seven",
		"$j2 @b join_rules = 40 $d $c,$p,$b invite",
		"$f @f member =@f 22 $d $c,$p,$j join",
		"$q3 @a power = 50 $m $c,$p,$a,$m @a:100",
	)
}

// townState is the base of townRoom with the events of these ids put into it.
func townState(ids string) []impl.Entry {
	return stateWith(townRoom(), append(idList("$c $a $p $j $b $d"), idList(ids)...)...)
}

// statesAfter are the states after each event of a valid room.
func statesAfter(r impl.Room) [][]impl.Entry {
	_, after := statesAround(r)
	return after
}

// randomStates are states that fit the room: those after its events, or any, or one with small changes.
func randomStates(random *rand.Rand, r impl.Room) [][]impl.Entry {
	after := statesAfter(r)
	var states [][]impl.Entry
	for range pick(random, 0, 1, 2, 2, 2, 3, 3, 4) {
		s := pick(random, after...)
		switch random.Intn(6) {
		case 0:
			s = randomFit(random, r)
		case 1, 2:
			if e := pick(random, r.Events...); e.IsState {
				s = withChange(s, entryFor(e))
			}
		}
		states = append(states, s)
	}
	return states
}
