package tests

import (
	"reflect"
	"strings"
	"testing"

	"loop.example/s01366/impl"
)

func TestTextsOfEvents(t *testing.T) {
	cases := []struct {
		event impl.Event
		text  string
	}{
		{createEvent(), "$c @a create = 0 - - -"},
		{memberEvent(), "$m @a member =@b 3 $x $x invite"},
		{rulesEvent(), "$j @a join_rules = 4 $x $x,$y public"},
		{powerEvent(), "$p @a power = 5 $x $y #topic:-5,*ban:50,@a:100"},
		{topicEvent(), "$t @a topic = 6 $x,$y $c hi"},
		{messageEvent(), "$n @a msg - 7 $x $c,$p hello"},
		{impl.Event{Id: "p", Sender: "s", Type: "power", IsState: true, Prev: []string{}, Auth: []string{}, Grants: []impl.Grant{}}, "p s power = 0 - - -"},
		{impl.Event{Id: "p", Sender: "s", Type: "power", IsState: true, Grants: []impl.Grant{{Name: "a", Level: 0}}}, "p s power = 0 - - a:0"},
		{impl.Event{Id: "p", Sender: "s", Type: "power", IsState: true, Grants: []impl.Grant{{Name: "a", Level: -impl.MaxLevel}, {Name: "b", Level: impl.MaxLevel}}}, "p s power = 0 - - a:-1000000,b:1000000"},
		{impl.Event{Id: "m", Sender: "s", Type: "msg", Time: impl.MaxTime}, "m s msg - 1000000000000 - - -"},
		{impl.Event{Id: "1", Sender: "2", Type: "3", IsState: true, Key: "4", Time: 10, Prev: []string{"5"}, Auth: []string{"6", "7"}, Value: "8"}, "1 2 3 =4 10 5 6,7 8"},
	}
	for _, c := range cases {
		text, ok := impl.EventText(c.event)
		if !ok || text != c.text {
			t.Errorf("%q %v, not %q", text, ok, c.text)
		}
		back, code := impl.ParseEvent(c.text)
		if code != 0 || !sameEvent(back, c.event) {
			t.Errorf("%q: code %d, %+v", c.text, code, back)
		}
	}
}

func TestNoTextOfIllFormedEvents(t *testing.T) {
	for _, base := range samples() {
		for code := 1; code <= 5; code++ {
			for _, change := range faults()[code] {
				e := copyOf(base)
				change(&e)
				if text, ok := impl.EventText(e); ok || text != "" {
					t.Errorf("%q %v at code %d: %+v", text, ok, code, e)
				}
			}
		}
	}
}

type lineCase struct {
	line string
	code int
}

func checkLines(t *testing.T, cases []lineCase) {
	t.Helper()
	for _, c := range cases {
		e, code := impl.ParseEvent(c.line)
		if code != c.code {
			t.Errorf("%q: code %d, not %d", c.line, code, c.code)
		}
		if code != 0 && !reflect.DeepEqual(e, impl.Event{}) {
			t.Errorf("%q: code %d with %+v", c.line, code, e)
		}
		if text, ok := impl.EventText(e); code == 0 && (!ok || text != c.line) {
			t.Errorf("%q: written again it is %q, %v", c.line, text, ok)
		}
	}
}

func TestPiecesOfTexts(t *testing.T) {
	checkLines(t, []lineCase{
		{"m @a msg - 5 $x $y v", 0},
		{"", 1},
		{" ", 1},
		{"       ", 1},
		{"m", 1},
		{"m @a msg - 5 $x $y", 1},
		{"m @a msg - 5 $x $y v w", 1},
		{"m @a msg - 5 $x $y v w x y z", 1},
		{" m @a msg - 5 $x $y v", 1},
		{"m @a msg - 5 $x $y v ", 1},
		{"m @a msg - 5 $x $y ", 1},
		{" @a msg - 5 $x $y v", 1},
		{"m  msg - 5 $x $y v", 1},
		{"m @a  - 5 $x $y v", 1},
		{"m @a msg  5 $x $y v", 1},
		{"m @a msg -  $x $y v", 1},
		{"m @a msg - 5  $y v", 1},
		{"m @a msg - 5 $x  v", 1},
		{"m  @a msg - 5 $x $y v", 1},
		{"m\t@a\tmsg\t-\t5\t$x\t$y\tv", 1},
		{"m\n@a msg - 5 $x $y v", 1},
		{"m @a msg - 5 $x $y v\n", 6},
		{"\nm @a msg - 5 $x $y v", 2},
		{"m @a msg - 5 $x $y v\x00", 6},
		{"m @a msg - 5 $x $y \xff\xfe", 6},
		{"m @a msg\u00a0 - 5 $x $y v", 2},
		{strings.Repeat(" ", 100000), 1},
		{strings.Repeat("a", 100000), 1},
	})
}

func TestKeysOfTexts(t *testing.T) {
	checkLines(t, []lineCase{
		{"m @a msg = 5 $x $y v", 0},
		{"m @a msg =k 5 $x $y v", 0},
		{"m @a msg k 5 $x $y v", 1},
		{"m @a msg -k 5 $x $y v", 1},
		{"m @a msg -- 5 $x $y v", 1},
		{"m @a msg -= 5 $x $y v", 1},
		{"m @a msg k= 5 $x $y v", 1},
		{"m @a msg =- 5 $x $y v", 3},
		{"m @a msg == 5 $x $y v", 3},
		{"m @a msg =k,l 5 $x $y v", 3},
		{"m @a msg =" + wordOf(impl.MaxWord) + " 5 $x $y v", 0},
		{"m @a msg =" + wordOf(impl.MaxWord+1) + " 5 $x $y v", 3},
	})
}

func TestTimesOfTexts(t *testing.T) {
	checkLines(t, []lineCase{
		{"m @a msg - 0 $x $y v", 0},
		{"m @a msg - 1 $x $y v", 0},
		{"m @a msg - 10 $x $y v", 0},
		{"m @a msg - 1000000000000 $x $y v", 0},
		{"m @a msg - 1000000000001 $x $y v", 4},
		{"m @a msg - 9999999999999 $x $y v", 4},
		{"m @a msg - 10000000000000 $x $y v", 1},
		{"m @a msg - 0000000000001 $x $y v", 1},
		{"m @a msg - 99999999999999999999999999 $x $y v", 1},
		{"m @a msg - 18446744073709551617 $x $y v", 1},
		{"m @a msg - 00 $x $y v", 1},
		{"m @a msg - 05 $x $y v", 1},
		{"m @a msg - -0 $x $y v", 1},
		{"m @a msg - -5 $x $y v", 1},
		{"m @a msg - - $x $y v", 1},
		{"m @a msg - +5 $x $y v", 1},
		{"m @a msg - 5- $x $y v", 1},
		{"m @a msg - 5a $x $y v", 1},
		{"m @a msg - a $x $y v", 1},
		{"m @a msg - 0x5 $x $y v", 1},
		{"m @a msg - 1_0 $x $y v", 1},
		{"m @a msg - 5.0 $x $y v", 1},
		{"m @a msg - 1e3 $x $y v", 1},
		{"m @a msg - / $x $y v", 1},
		{"m @a msg - 5: $x $y v", 1},
		{"m @a msg - \u0665 $x $y v", 1},
	})
}

func TestRefsOfTexts(t *testing.T) {
	full := strings.Join(numbered("$", impl.MaxRefs), ",")
	over := strings.Join(numbered("$", impl.MaxRefs+1), ",")
	cases := []lineCase{
		{"-", 0},
		{"$x", 0},
		{"$x,$y", 0},
		{full, 0},
		{over, 5},
		{",", 5},
		{"$x,", 5},
		{",$x", 5},
		{"$x,,$y", 5},
		{"-,-", 5},
		{"-,$x", 5},
		{"$x,-", 5},
		{"--", 5},
		{"$x,$x", 5},
		{"m", 5},
		{"$x,m", 5},
		{"$x;$y", 5},
		{"$x:1", 5},
		{strings.Repeat(",", 50000), 5},
	}
	for _, c := range cases {
		checkLines(t, []lineCase{
			{"m @a msg - 5 " + c.line + " $y v", c.code},
			{"m @a msg - 5 $x " + c.line + " v", c.code},
		})
	}
}

func TestValuesOfTexts(t *testing.T) {
	checkLines(t, []lineCase{
		{"m @a msg - 5 $x $y -", 0},
		{"m @a msg - 5 $x $y --", 6},
		{"m @a msg - 5 $x $y a,b", 6},
		{"m @a msg - 5 $x $y ,", 6},
		{"m @a msg - 5 $x $y =a", 6},
		{"m @a msg - 5 $x $y a:1", 6},
		{"m @a msg - 5 $x $y a:b", 1},
		{"m @a msg - 5 $x $y :", 1},
		{"m @a msg - 5 $x $y " + wordOf(impl.MaxWord), 0},
		{"m @a msg - 5 $x $y " + wordOf(impl.MaxWord+1), 6},
		{"m @a member =@a 5 $x $y join", 0},
		{"m @a member =@a 5 $x $y -", 6},
		{"m @a member = 5 $x $y join", 6},
		{"m @a member - 5 $x $y join", 6},
		{"m @a join_rules = 5 $x $y invite", 0},
		{"m @a join_rules =k 5 $x $y invite", 6},
		{"m @a create = 0 - - -", 0},
		{"m @a create - 0 - - -", 6},
		{"m @a create = 0 $x - -", 6},
		{"m @a create = 0 - $x -", 6},
	})
}

func TestGrantsOfTexts(t *testing.T) {
	full := "@1000:1"
	for _, name := range numbered("@", impl.MaxGrants)[1:] {
		full += "," + name + ":1"
	}
	cases := []lineCase{
		{"-", 0},
		{"a:1", 0},
		{"*a:1", 0},
		{"#a:1", 0},
		{"a:0", 0},
		{"a:-1", 0},
		{"a:-10", 0},
		{"a:1,b:2,c:-3", 0},
		{full, 0},
		{full + ",@9999:1", 6},
		{"a:1000000", 0},
		{"a:-1000000", 0},
		{"a:1000001", 6},
		{"a:-1000001", 6},
		{"a:9999999999999", 6},
		{"a:-9999999999999", 6},
		{"a:10000000000000", 1},
		{"a:-10000000000000", 1},
		{"a:-0000000000001", 1},
		{"a:18446744073709551617", 1},
		{"a:-0", 1},
		{"a:00", 1},
		{"a:01", 1},
		{"a:-01", 1},
		{"a:--1", 1},
		{"a:-", 1},
		{"a:+1", 1},
		{"a:1-", 1},
		{"a:", 1},
		{"a:x", 1},
		{"a:1:2", 1},
		{"a::1", 1},
		{"a:1,", 1},
		{",a:1", 1},
		{"a:1,b", 1},
		{"a,b:1", 1},
		{"a:1,,b:1", 1},
		{"a:1,b:", 1},
		{":1", 6},
		{":1,a:1", 6},
		{"-:1", 6},
		{"*:1", 6},
		{"#:1", 6},
		{"**a:1", 6},
		{"a%:1", 6},
		{"a:1,a:1", 6},
		{"b:1,a:1", 6},
		{"a", 6},
		{"a:1,b:x,c", 1},
	}
	for _, c := range cases {
		checkLines(t, []lineCase{{"p @a power = 5 $x $y " + c.line, c.code}})
	}
}

func TestCodesOfTextsInOrder(t *testing.T) {
	checkLines(t, []lineCase{
		{"m% @a msg - 5 $x $y v", 2},
		{"- @a msg - 5 $x $y v", 2},
		{"m - msg - 5 $x $y v", 2},
		{"m @a - - 5 $x $y v", 2},
		{"m% @a msg =% 9999999999999 , , %", 2},
		{"m @a msg =% 9999999999999 , , %", 3},
		{"m @a msg =k 9999999999999 , , %", 4},
		{"m @a msg =k 5 , , %", 5},
		{"m @a msg =k 5 $x $y %", 6},
		{"m% @a msg % 9999999999999 , , %", 1},
		{"m% @a msg =% 05 , , %", 1},
		{"m% @a msg =% 5 , , %:", 1},
	})
}

func TestListsOfAnswersAreApart(t *testing.T) {
	line := "p @a power = 5 $x,$y $x,$y a:1,b:2"
	e, _ := impl.ParseEvent(line)
	want := copyOf(e)
	grown := append(e.Prev, "$grown")
	grown[0] = "$other"
	e.Prev[1] = "$changed"
	if again, _ := impl.ParseEvent(line); !sameEvent(again, want) {
		t.Errorf("a later answer is %+v", again)
	}
	e.Prev = want.Prev
	if !sameEvent(e, want) {
		t.Errorf("a change of Prev is seen elsewhere: %+v", e)
	}
}
