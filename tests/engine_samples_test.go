package tests

import (
	"math/rand"
	"slices"
	"strconv"
	"strings"
	"testing"

	"loop.example/s01366/impl"
)

// bridgeRoom forks at $y: $k bans @b while @b goes on with $t, and $m joins the two. $x and $n are not allowed.
func bridgeRoom() impl.Room {
	return roomOf(
		"$c @a create = 1 - - -",
		"$a @a member =@a 2 $c $c join",
		"$p @a power = 3 $a $c,$a @a:100,@b:50",
		"$j @a join_rules = 4 $p $c,$a,$p public",
		"$b @b member =@b 5 $j $c,$p,$j join",
		"$x @d topic = 6 $b $c,$p x",
		"$y @b topic = 7 $x $c,$p,$b one",
		"$k @a member =@b 8 $y $c,$p,$a,$b ban",
		"$t @b topic = 9 $y $c,$p,$b two",
		"$m @a msg - 10 $k,$t $c,$p,$a -",
		"$n @b topic = 11 $m $c,$p,$b three",
		"$o @a topic = 12 $n,$t $c,$p,$a four",
	)
}

// bridgeStates has for each event of bridgeRoom the ids of the states before and after it, worked out by hand.
func bridgeStates() map[string][2]string {
	return map[string][2]string{
		"$c": {"", "$c"},
		"$a": {"$c", "$c $a"},
		"$p": {"$c $a", "$c $a $p"},
		"$j": {"$c $a $p", "$c $a $p $j"},
		"$b": {"$c $a $p $j", "$c $a $p $j $b"},
		"$x": {"$c $a $p $j $b", "$c $a $p $j $b"},
		"$y": {"$c $a $p $j $b", "$c $a $p $j $b $y"},
		"$k": {"$c $a $p $j $b $y", "$c $a $p $j $k $y"},
		"$t": {"$c $a $p $j $b $y", "$c $a $p $j $b $t"},
		"$m": {"$c $a $p $j $k", "$c $a $p $j $k"},
		"$n": {"$c $a $p $j $k", "$c $a $p $j $k"},
		"$o": {"$c $a $p $j $k", "$c $a $p $j $k $o"},
	}
}

// bridgeStore has the groups that the events of bridgeRoom make, one after the other, worked out by hand.
func bridgeStore() impl.Store {
	return storeOf(
		"-1",
		"0 create/=$c",
		"1 member/@a=$a",
		"2 power/=$p",
		"3 join_rules/=$j",
		"-1 create/=$c join_rules/=$j member/@a=$a member/@b=$b power/=$p",
		"5 topic/=$y",
		"6 member/@b=$k",
		"6 topic/=$t",
		"7 topic/=",
		"9 topic/=$o",
	)
}

// busyRoom is a valid room of branches that part and meet, in which events rest on what their senders saw, so that most of them are allowed.
func busyRoom(random *rand.Rand, size int) impl.Room {
	room := roomOf("$c @a create = 1 - - -", "$1 @a member =@a 1 $c $c join", "$2 @a power = 1 $1 $c,$1 @a:100,@b:50,@c:50", "$3 @a join_rules = 1 $2 $c,$1,$2 public")
	_, after := statesAround(room)
	for i := 4; i < size; i++ {
		e := randomDeed(random)
		if i < 7 {
			e = deed([]string{"@b member =@b join", "@c member =@c join", "d member =d join"}[i-4])
		}
		if e.IsState && e.Type == "topic" {
			e.Key = pick(random, "", "k1", "k2", "k3", "k4")
		}
		e.Id, e.Time = "$"+strconv.Itoa(i*7%size)+"e"+strconv.Itoa(i), i+random.Intn(4)
		e.Prev = shuffled(random, tipsOrLast(random, room))
		s := stateBefore(room, after, e)
		e.Auth = seenBy(s, e)
		if old := eventIn(room, s, "power", ""); e.Type == "power" && isThere(old) {
			e = regrant(random, e, old)
		}
		after = append(after, stateBehind(room, s, e))
		room.Events = append(room.Events, e)
	}
	return room
}

// tipsOrLast joins branches at times, and goes on with one of the last events otherwise.
func tipsOrLast(random *rand.Rand, r impl.Room) []string {
	if tips := wantedTips(r); random.Intn(4) == 0 && len(tips) <= impl.MaxRefs {
		return tips
	}
	last := idsOf(r)[max(0, len(r.Events)-4):]
	if random.Intn(4) == 0 {
		return shuffled(random, last)[:1+random.Intn(len(last))]
	}
	return []string{pick(random, last...)}
}

func seenBy(s []impl.Entry, e impl.Event) []string {
	var auth []string
	for _, slot := range wantedNeeded(e) {
		if id := idAt(s, slot.Type, slot.Key); id != "" {
			auth = append(auth, id)
		}
	}
	return auth
}

func sameEngine(a, b impl.Engine) bool {
	return sameRoom(a.Room, b.Room) && sameCover(a.Cover, b.Cover) && sameStore(a.Store, b.Store) && slices.Equal(a.Before, b.Before) && slices.Equal(a.After, b.After)
}

func markNumber(i int) int {
	return -1000 - i
}

// overwriteEngine writes over all the memory of Build's answer and says whether its lists are apart.
func overwriteEngine(g impl.Engine, codes []int) bool {
	numbers := append(slices.Clone(g.Cover.Reach), g.Before, g.After, codes)
	free := apart(numbers, markNumber) && overwrite(g.Room) && overwriteStore(g.Store)
	clear(g.Cover.Spots[:cap(g.Cover.Spots)])
	clear(g.Cover.Reach[:cap(g.Cover.Reach)])
	return free
}

// checkBuild holds all of Build's answer and its memory against what is wanted, twice, so that what the first answer kept would be seen.
func checkBuild(t *testing.T, name string, events []impl.Event, want impl.Engine, wantCodes []int) {
	t.Helper()
	given := roomyRoom(impl.Room{Events: events})
	checkKept(t, name, given, func() {
		for range 2 {
			g, codes := impl.Build(given.Events)
			if !slices.Equal(codes, wantCodes) {
				t.Errorf("%s: the codes are %v, not %v", name, codes, wantCodes)
			}
			if !sameEngine(g, want) {
				t.Errorf("%s: Build gives %+v, not %+v", name, g, want)
			}
			if !overwriteEngine(g, codes) {
				t.Errorf("%s: two lists of the answer share memory", name)
			}
		}
	})
}

// checkBatch holds all of Batch's answer and its memory against what is wanted.
func checkBatch(t *testing.T, name string, r impl.Room, id string, before, after []impl.Entry, code int) {
	t.Helper()
	room := roomyRoom(r)
	checkKept(t, name, room, func() {
		for range 2 {
			gotBefore, gotAfter, got := impl.Batch(room, id)
			if got != code || !slices.Equal(gotBefore, before) || !slices.Equal(gotAfter, after) {
				t.Errorf("%s: Batch of %q is %v, %v, %d; not %v, %v, %d", name, id, gotBefore, gotAfter, got, before, after, code)
			}
			if !apart([][]impl.Entry{gotBefore, gotAfter}, markEntry) {
				t.Errorf("%s: the states of %q share memory", name, id)
			}
		}
	})
}

func sameAnswer(a, b impl.Answer) bool {
	return a.Code == b.Code && slices.Equal(a.State, b.State) && slices.Equal(a.Ids, b.Ids)
}

// overwriteAnswers writes over all the memory of Run's answer and says whether its lists are apart.
func overwriteAnswers(answers []impl.Answer) bool {
	var states [][]impl.Entry
	var ids [][]string
	for _, a := range answers {
		states, ids = append(states, a.State), append(ids, a.Ids)
	}
	free := apart(states, markEntry) && apart(ids, markText)
	clear(answers[:cap(answers)])
	return free
}

// checkRun holds all of Run's answer and its memory against what is wanted.
func checkRun(t *testing.T, name, script string, want []impl.Answer, code, line int) {
	t.Helper()
	for range 2 {
		answers, gotCode, gotLine := impl.Run(script)
		if gotCode != code || gotLine != line {
			t.Errorf("%s: Run of %.200q gives code %d, line %d; not %d, %d", name, script, gotCode, gotLine, code, line)
		}
		if len(answers) != len(want) {
			t.Errorf("%s: Run of %.200q gives %d answers, not %d", name, script, len(answers), len(want))
			return
		}
		for i, a := range answers {
			if !sameAnswer(a, want[i]) {
				t.Errorf("%s: answer %d of %.200q is %+v, not %+v", name, i, script, a, want[i])
			}
		}
		if !overwriteAnswers(answers) {
			t.Errorf("%s: two answers of %.200q share memory", name, script)
		}
	}
}

// addingAll is a script that adds all events of a room, with a byte 10 behind every line.
func addingAll(r impl.Room) string {
	var script strings.Builder
	for _, e := range r.Events {
		text, _ := impl.EventText(e)
		script.WriteString("add " + text + "\n")
	}
	return script.String()
}
