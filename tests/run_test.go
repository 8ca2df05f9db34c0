package tests

import (
	"math/rand"
	"slices"
	"strconv"
	"strings"
	"testing"

	"loop.example/s01366/impl"
)

// said is a line of a script and its answer: the state as ids of the bridge's events, and the ids.
type said struct {
	line       string
	code       int
	state, ids string
}

// checkTalk does the lines in one script, with and without a byte 10 at its end and with empty lines between.
func checkTalk(t *testing.T, name string, r impl.Room, talk []said) {
	t.Helper()
	var lines []string
	var want []impl.Answer
	for _, s := range talk {
		lines = append(lines, s.line)
		want = append(want, impl.Answer{Code: s.code, State: stateWith(r, idList(s.state)...), Ids: idList(s.ids)})
	}
	checkRun(t, name, strings.Join(lines, "\n"), want, 0, 0)
	checkRun(t, name+", a byte 10 at the end", strings.Join(lines, "\n")+"\n", want, 0, 0)
	checkRun(t, name+", empty lines", "\n\n"+strings.Join(lines, "\n\n\n")+"\n\n\n", want, 0, 0)
}

// bridgeTalk adds the bridge's events without an answer but 0 each.
func bridgeTalk() []said {
	var talk []said
	for _, line := range strings.Split(strings.TrimSuffix(addingAll(bridgeRoom()), "\n"), "\n") {
		talk = append(talk, said{line: line})
	}
	return talk
}

func TestStatesInScripts(t *testing.T) {
	talk := bridgeTalk()
	for id, ids := range bridgeStates() {
		talk = append(talk, said{line: "before " + id, state: ids[0]}, said{line: "after " + id, state: ids[1]}, said{line: "after " + id, state: ids[1]})
	}
	for _, id := range []string{"$zz", "$C", "$", "c", "-", "=", ":", "before", "\t", "\r", "$c\r", "\x00", "é", "\xff", "$c;$a", strings.Repeat("x", 500)} {
		talk = append(talk, said{line: "before " + id, code: 2}, said{line: "after " + id, code: 2})
	}
	checkTalk(t, "states", bridgeRoom(), talk)
}

func TestIdsInScripts(t *testing.T) {
	talk := append(bridgeTalk(), []said{
		{line: "chain $c"},
		{line: "chain $a", ids: "$c"},
		{line: "chain $k", ids: "$a $b $c $j $p"},
		{line: "chain $x $a", ids: "$a $c $p"},
		{line: "chain $a $x", ids: "$a $c $p"},
		{line: "chain $a $a", ids: "$c"},
		{line: "chain $a $p $a $p", ids: "$a $c"},
		{line: "chain $zz", code: 2},
		{line: "chain $a $zz", code: 2},
		{line: "chain $zz $a", code: 2},
		{line: "chain chain", code: 2},
		{line: "chain \t", code: 2},
		{line: "diff"},
		{line: "diff $k"},
		{line: "diff $k $k"},
		{line: "diff $c,$c,$c $c"},
		{line: "diff $a $c", ids: "$a"},
		{line: "diff $c $a", ids: "$a"},
		{line: "diff $k $p", ids: "$b $j $k"},
		{line: "diff $k $b,$p", ids: "$k"},
		{line: "diff $k $t,$k $k", ids: "$t"},
		{line: "diff $c,$a,$p $c $a,$c", ids: "$a $p"},
		{line: "diff $zz", code: 3},
		{line: "diff $c $zz", code: 3},
		{line: "diff $c,$zz $c", code: 3},
		{line: "diff $c\r", code: 3},
		{line: "diff diff diff", code: 3},
		{line: "diff" + strings.Repeat(" $a", impl.MaxSets)},
		{line: "diff" + strings.Repeat(" $a", impl.MaxSets-1) + " $c", ids: "$a"},
		{line: "diff" + strings.Repeat(" $a", impl.MaxSets+1), code: 2},
		{line: "diff" + strings.Repeat(" $zz", impl.MaxSets+1), code: 2},
		{line: "diff" + strings.Repeat(" $zz", impl.MaxSets), code: 3},
		{line: "diff $c" + strings.Repeat(",$c", impl.MaxEvents-1) + " $a", ids: "$a"},
		{line: "diff $c" + strings.Repeat(",$c", impl.MaxEvents) + " $a", code: 3},
		{line: "chain" + strings.Repeat(" $a", impl.MaxEvents), ids: "$c"},
		{line: "chain" + strings.Repeat(" $a", impl.MaxEvents+1), code: 2},
		{line: "tips", ids: "$o"},
		{line: "tips", ids: "$o"},
	}...)
	checkTalk(t, "ids", bridgeRoom(), talk)
}

func TestScriptsWithoutEvents(t *testing.T) {
	checkTalk(t, "no event", impl.Room{}, []said{
		{line: "tips"},
		{line: "diff"},
		{line: "diff $c", code: 3},
		{line: "diff" + strings.Repeat(" $c", impl.MaxSets+1), code: 2},
		{line: "chain $c", code: 2},
		{line: "before $c", code: 2},
		{line: "after $c", code: 2},
		{line: "add ", code: 21},
		{line: "add $a @a member =@a 2 $c $c join", code: 7},
		{line: "add $x @a msg - 1 - - -", code: 8},
		{line: "tips"},
		{line: "after $a", code: 2},
	})
	for _, script := range []string{"", "\n", "\n\n\n"} {
		checkRun(t, "no line", script, nil, 0, 0)
	}
}

// TestAddsInScripts has every code of an add, and asks after each that nothing came in.
func TestAddsInScripts(t *testing.T) {
	talk := []said{{line: "add $c @a create = 1 - - -"}, {line: "add $a @a member =@a 2 $c $c join"}}
	refused := []said{
		{line: "add ", code: 21},
		{line: "add  ", code: 21},
		{line: "add x", code: 21},
		{line: "add add", code: 21},
		{line: "add \t", code: 21},
		{line: "add  $e @a msg - 3 $a $c,$a hi", code: 21},
		{line: "add $e @a msg - 3 $a $c,$a hi ", code: 21},
		{line: "add $e  @a msg - 3 $a $c,$a hi", code: 21},
		{line: "add $e @a msg - 3 $a $c,$a", code: 21},
		{line: "add $e @a msg k 3 $a $c,$a hi", code: 21},
		{line: "add $e @a msg - 03 $a $c,$a hi", code: 21},
		{line: "add $e @a power = 3 $a $c,$a @a:b", code: 21},
		{line: "add $-e @a msg - 3 $a $c,$a hi", code: 22},
		{line: "add $e @a-b msg - 3 $a $c,$a hi", code: 22},
		{line: "add $e @a topic =k-k 3 $a $c,$a hi", code: 23},
		{line: "add $e @a msg - 1000000000001 $a $c,$a hi", code: 24},
		{line: "add $e @a msg - 3 $a,$a $c,$a hi", code: 25},
		{line: "add $e @a msg - 3 $e $c,$a hi", code: 25},
		{line: "add $e @a msg - 3 $a $c,,$a hi", code: 25},
		{line: "add $e @a msg - 3 $a $c,$a hi\r", code: 26},
		{line: "add $e @a msg - 3 $a $c,$a é", code: 26},
		{line: "add $e @a member = 3 $a $c,$a join", code: 26},
		{line: "add $e @a create = 3 $a $c -", code: 26},
		{line: "add $a @a msg - 3 $a $c hi", code: 25},
		{line: "add $a @a msg - 3 $c $c hi", code: 6},
		{line: "add $c @a create = 1 - - -", code: 6},
		{line: "add $a @a msg - 3 $zz $zz hi", code: 6},
		{line: "add $e @a msg - 3 $zz $c,$a hi", code: 7},
		{line: "add $e @a msg - 3 $a $c,$zz hi", code: 7},
		{line: "add $e @a msg - 3 - $zz hi", code: 7},
		{line: "add $e @a create = 3 - - -", code: 8},
		{line: "add $e @a msg - 3 - $c hi", code: 8},
		{line: "add $e @a msg - 3 $a - hi", code: 8},
	}
	for _, s := range refused {
		talk = append(talk, s, said{line: "tips", ids: "$a"}, said{line: "after $a", state: "$c $a"}, said{line: "before $e", code: 2}, said{line: "chain $e", code: 2}, said{line: "diff $e", code: 3})
	}
	talk = append(talk,
		said{line: "add $e @a note =n 3 $a $c,$a hi"},
		said{line: "tips", ids: "$e"},
		said{line: "after $a", state: "$c $a"},
		said{line: "before $e", state: "$c $a"},
		said{line: "after $e", state: "$c $a $e"},
		said{line: "chain $e", ids: "$a $c"},
		said{line: "diff $e $a", ids: "$e"},
		said{line: "add $e @a note =n 3 $a $c,$a hi", code: 6},
		said{line: "after $e", state: "$c $a $e"},
	)
	checkTalk(t, "adds", roomOf("$c @a create = 1 - - -", "$a @a member =@a 2 $c $c join", "$e @a note =n 3 $a $c,$a hi"), talk)
}

// TestAnswersInTime asks the same again and again while events come in.
func TestAnswersInTime(t *testing.T) {
	room := bridgeRoom()
	states := bridgeStates()
	var talk []said
	tips := []string{"", "$c", "$a", "$p", "$j", "$b", "$x", "$y", "$k", "$k $t", "$m", "$n", "$o"}
	for i := 0; i <= len(room.Events); i++ {
		talk = append(talk, said{line: "tips", ids: tips[i]})
		for k, e := range room.Events {
			if k < i {
				talk = append(talk, said{line: "before " + e.Id, state: states[e.Id][0]}, said{line: "after " + e.Id, state: states[e.Id][1]})
			} else {
				talk = append(talk, said{line: "before " + e.Id, code: 2}, said{line: "after " + e.Id, code: 2}, said{line: "chain " + e.Id, code: 2}, said{line: "diff " + e.Id, code: 3})
			}
		}
		if i < len(room.Events) {
			talk = append(talk, bridgeTalk()[i])
		}
	}
	checkTalk(t, "in time", room, talk)
}

// strangeLines are none of the document's.
func strangeLines() []string {
	lines := []string{
		"add", "ad", "adds", "addx", "Add x", "ADD x", " add x", "\tadd x", "add\tx", "add\r", "add:x", "add,x", "a", "x", "#", "-", " ", "  ", "\t", "\r", "\x00", "é", "\xff",
		"tips ", " tips", "tips x", "tips  ", "tips tips", "tipsy", "tip", "Tips", "TIPS", "tips\r", "tips\t", "tips\x00", "tips,", "\ufefftips", "tips\v",
		"diff ", " diff", "diff  ", "diff  a", "diff a ", "diff a  b", "diff a,", "diff ,a", "diff ,", "diff a,,b", "diff a b,", "diff ,a b", "diff a,b ,c", "diff a , b", "Diff", "diffs", "diff\ta", "diff,a", "diff\r",
		"chain", "chain ", " chain a", "chain  a", "chain a ", "chain a  b", "chain a,b", "chain ,", "chain a,", "chain a b,c", "chain ,a b", "chain a , b", "Chain a", "chains a", "chain\ta", "chain,a", "chain\r",
		"question a", "state a", "batch a", "help", "// add x", "add\u00a0x",
	}
	for _, name := range []string{"before", "after"} {
		for _, line := range []string{"X", "X ", " X a", "X  a", "X a ", "X a b", "X a  b", "X a,b", "X a,", "X ,a", "X ,", "Xs a", "X\ta", "X,a", "X a, b", "X\r"} {
			lines = append(lines, strings.ReplaceAll(line, "X", name))
		}
	}
	return append(lines, "Before a", "AFTER a", "befor a", "afte a")
}

func TestStrangeLines(t *testing.T) {
	good := strings.TrimSuffix(addingAll(bridgeRoom()), "\n")
	for _, line := range strangeLines() {
		checkRun(t, "alone", line, nil, 2, 1)
		checkRun(t, "with an end", line+"\n", nil, 2, 1)
		checkRun(t, "behind an empty line", "\n"+line, nil, 2, 2)
		checkRun(t, "behind empty lines", "\n\n\n"+line+"\n\n", nil, 2, 4)
		checkRun(t, "behind good lines", good+"\n"+line, nil, 2, 13)
		checkRun(t, "among good lines and empty ones", "tips\n\ndiff\n\n"+line+"\ntips\n", nil, 2, 5)
		checkRun(t, "ahead of good lines", line+"\n"+good, nil, 2, 1)
		checkRun(t, "twice", "tips\n"+line+"\ntips\n"+line, nil, 2, 2)
		checkRun(t, "behind adds with a code", "add x\nadd \nadd $c @a create = 1 - - -\nadd $c @a create = 1 - - -\n"+line, nil, 2, 5)
	}
	checkRun(t, "ends of two bytes", "tips\r\ntips\r\n", nil, 2, 1)
	checkRun(t, "an empty line of two bytes", "tips\n\r\n", nil, 2, 2)
}

// TestEveryByteInALine lays each byte at the places of a line.
func TestEveryByteInALine(t *testing.T) {
	for b := range 256 {
		text := string([]byte{byte(b)})
		for _, line := range []string{"X", "tipsX", "Xtips", "tips X", "addX", "add X", "beforeX", "before X", "before aXb", "afterXa", "chain X", "chain aXb", "chainXa", "diff X", "diff aXb", "diffXa", "diffX"} {
			script := "diff\n" + strings.ReplaceAll(line, "X", text)
			want, code, at := wantedRun(script)
			checkRun(t, "byte "+strconv.Itoa(b), script, want, code, at)
		}
	}
}

func TestLengthsOfScripts(t *testing.T) {
	refused := []impl.Answer{{Code: 21}}
	checkRun(t, "as long as may be, empty lines", strings.Repeat("\n", impl.MaxScript), nil, 0, 0)
	checkRun(t, "one byte more, empty lines", strings.Repeat("\n", impl.MaxScript+1), nil, 1, 0)
	checkRun(t, "as long as may be, one line", "add "+strings.Repeat("x", impl.MaxScript-4), refused, 0, 0)
	checkRun(t, "one byte more, one line", "add "+strings.Repeat("x", impl.MaxScript-3), nil, 1, 0)
	checkRun(t, "as long as may be, an empty line at the end", "add "+strings.Repeat("x", impl.MaxScript-5)+"\n", refused, 0, 0)
	checkRun(t, "one byte more, an empty line at the end", "add "+strings.Repeat("x", impl.MaxScript-4)+"\n", nil, 1, 0)
	checkRun(t, "as long as may be, strange", strings.Repeat("x", impl.MaxScript), nil, 2, 1)
	checkRun(t, "one byte more, strange", strings.Repeat("x", impl.MaxScript+1), nil, 1, 0)
	checkRun(t, "strange at the end", strings.Repeat("\n", impl.MaxScript-1)+"x", nil, 2, impl.MaxScript)
	checkRun(t, "strange at the end, one byte more", strings.Repeat("\n", impl.MaxScript)+"x", nil, 1, 0)
	checkRun(t, "far too long", strings.Repeat("tips\n", impl.MaxScript), nil, 1, 0)
	checkRun(t, "blanks", "diff "+strings.Repeat(" ", impl.MaxScript-5), nil, 2, 1)
	checkRun(t, "commas", "diff "+strings.Repeat(",", impl.MaxScript-5), nil, 2, 1)
	checkRun(t, "bytes, not runes", "add "+strings.Repeat("é", impl.MaxScript/2-1), nil, 1, 0)
	checkRun(t, "many questions", strings.Repeat("tips\n", impl.MaxScript/5), make([]impl.Answer, impl.MaxScript/5), 0, 0)
}

// TestScriptOfManyEvents adds MaxEvents events and more, and asks for states as great as a script can make them.
func TestScriptOfManyEvents(t *testing.T) {
	lines := []string{"add c a create = 0 - - -", "add d a member =a 0 c c join"}
	room := roomOf("c a create = 0 - - -", "d a member =a 0 c c join")
	for i := 2; i < impl.MaxEvents; i++ {
		text := strconv.Itoa(i) + " a n =" + strconv.Itoa(i) + " 0 " + room.Events[i-1].Id + " d -"
		lines, room.Events = append(lines, "add "+text), append(room.Events, eventOf(text))
	}
	want := make([]impl.Answer, impl.MaxEvents)
	ask := func(line string, a impl.Answer) { lines, want = append(lines, line), append(want, a) }
	ask("add e a n = 0 299 d -", impl.Answer{Code: 9})
	ask("add e a n = 0 e d -", impl.Answer{Code: 25})
	ask("add e a n = 0 zz d -", impl.Answer{Code: 7})
	ask("add 299 a n = 0 d d -", impl.Answer{Code: 6})
	ask("add e a n = 0 d - -", impl.Answer{Code: 8})
	ask("tips", impl.Answer{Ids: idList("299")})
	whole := stateWith(room, idsOf(room)...)
	for range 20 {
		ask("after 299", impl.Answer{State: whole})
		ask("before 299", impl.Answer{State: without(whole, "n", "299")})
		ask("chain 299", impl.Answer{Ids: idList("c d")})
	}
	checkRun(t, "many events", strings.Join(lines, "\n"), want, 0, 0)
	checkRun(t, "many events, one that is not known at the end", strings.Join(lines, "\n")+"\ntip", nil, 2, len(lines)+1)
}

func randomId(random *rand.Rand, r impl.Room) string {
	if random.Intn(15) == 0 {
		return pick(random, "$zz", "$", "x", "\t", "é", "tips")
	}
	return pick(random, idsOf(r)...)
}

func randomWords(random *rand.Rand, r impl.Room, count int) string {
	var words []string
	for range count {
		words = append(words, randomId(random, r))
	}
	return strings.Join(words, pick(random, ",", ",", " "))
}

func randomQuestion(random *rand.Rand, r impl.Room) string {
	switch random.Intn(6) {
	case 0:
		return "tips"
	case 1:
		return "chain " + strings.ReplaceAll(randomWords(random, r, 1+random.Intn(3)), ",", " ")
	case 2:
		line := "diff"
		for range pick(random, 0, 1, 2, 2, 3, impl.MaxSets, impl.MaxSets+1) {
			line += " " + randomWords(random, r, 1+random.Intn(3))
		}
		return line
	case 3:
		return "before " + randomId(random, r)
	}
	return "after " + randomId(random, r)
}

// randomScript adds the events of a room, not all of them well, and asks in between.
func randomScript(random *rand.Rand, r impl.Room) []string {
	var lines []string
	for _, e := range muddled(random, r) {
		if text, ok := impl.EventText(e); ok {
			lines = append(lines, "add "+text)
		}
		switch random.Intn(12) {
		case 0:
			lines = append(lines, "")
		case 1:
			lines = append(lines, "add "+mangled(random, addingAll(impl.Room{Events: []impl.Event{e}})[4:]))
		}
		for range random.Intn(3) {
			lines = append(lines, randomQuestion(random, r))
		}
	}
	return strings.Split(strings.Join(lines, "\n"), "\n")
}

// TestRandomScripts holds promise 16 at scripts that are good, and at those with one line mangled.
func TestRandomScripts(t *testing.T) {
	random := rand.New(rand.NewSource(35))
	codes := map[int]int{}
	strange := 0
	for i := range 300 {
		room := busyRoom(random, 7+random.Intn(15))
		if i%3 == 0 {
			room = livelyRoom(random, 1+random.Intn(15))
		}
		lines := randomScript(random, room)
		if i%2 == 0 {
			at := random.Intn(len(lines))
			lines[at] = mangled(random, lines[at])
		}
		script := strings.Join(lines, "\n")
		want, code, line := wantedRun(script)
		checkRun(t, "random", script, want, code, line)
		if code != 0 {
			strange++
		}
		for _, a := range want {
			codes[a.Code]++
		}
		checkAddsWithCodes(t, lines)
	}
	for _, code := range []int{0, 2, 3, 6, 7, 21} {
		if codes[code] < 20 {
			t.Errorf("code %d came only %d times", code, codes[code])
		}
	}
	if strange < 10 {
		t.Errorf("only %d scripts had a line that is not known", strange)
	}
}

// checkAddsWithCodes takes the adds with a code out of a script: all other answers stay.
func checkAddsWithCodes(t *testing.T, lines []string) {
	t.Helper()
	lines = slices.DeleteFunc(slices.Clone(lines), func(line string) bool { return line == "" })
	answers, code, _ := impl.Run(strings.Join(lines, "\n"))
	if code != 0 {
		return
	}
	var left []string
	var want []impl.Answer
	for i, line := range lines {
		if answers[i].Code == 0 || !strings.HasPrefix(line, "add ") {
			left, want = append(left, line), append(want, answers[i])
		}
	}
	checkRun(t, "without the adds that have a code", strings.Join(left, "\n"), want, 0, 0)
}
