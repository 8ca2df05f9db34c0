package tests

import (
	"math"
	"strings"
	"testing"

	"loop.example/s01366/impl"
)

type eventCase struct {
	name   string
	base   impl.Event
	change func(e *impl.Event)
	code   int
}

func checkCodes(t *testing.T, cases []eventCase) {
	t.Helper()
	for _, c := range cases {
		e := copyOf(c.base)
		c.change(&e)
		if got := impl.EventOk(e); got != c.code {
			t.Errorf("%s: code %d, not %d: %+v", c.name, got, c.code, e)
		}
		checkText(t, c.name, e, c.code)
	}
}

// checkText holds the text against the code: an event has one just when its code is 0, and it reads back.
func checkText(t *testing.T, name string, e impl.Event, code int) {
	t.Helper()
	text, ok := impl.EventText(e)
	if ok != (code == 0) {
		t.Errorf("%s: EventText says %v at code %d: %+v", name, ok, code, e)
	}
	if !ok {
		if text != "" {
			t.Errorf("%s: EventText gives %q with false", name, text)
		}
		return
	}
	back, read := impl.ParseEvent(text)
	if read != 0 || !sameEvent(back, e) {
		t.Errorf("%s: %q reads back with code %d as %+v", name, text, read, back)
	}
}

func TestSamplesAreWellFormed(t *testing.T) {
	for _, e := range samples() {
		if code := impl.EventOk(e); code != 0 {
			t.Errorf("code %d: %+v", code, e)
		}
		checkText(t, e.Type, e, 0)
	}
}

func TestEmptyEvent(t *testing.T) {
	if code := impl.EventOk(impl.Event{}); code != 1 {
		t.Errorf("code %d", code)
	}
	checkText(t, "empty", impl.Event{}, 1)
}

const wordBytes = "ABCDEFGHIJKLMNOPQRSTUVWXYZabcdefghijklmnopqrstuvwxyz0123456789_.@$/+"

func TestBytesOfWords(t *testing.T) {
	for b := range 256 {
		text := string([]byte{byte(b)})
		good := strings.Contains(wordBytes, text)
		for _, word := range []string{text, text + "w", "w" + text, "w" + text + "w"} {
			checkWordPlaces(t, word, good)
		}
	}
}

func TestLengthsOfWords(t *testing.T) {
	for length := 1; length <= impl.MaxWord+3; length++ {
		checkWordPlaces(t, wordOf(length), length <= impl.MaxWord)
	}
	checkWordPlaces(t, wordOf(5000), false)
}

// checkWordPlaces lays a text of at least one byte at every place where a word is asked for.
func checkWordPlaces(t *testing.T, text string, good bool) {
	t.Helper()
	code := func(bad int) int {
		if good {
			return 0
		}
		return bad
	}
	checkCodes(t, []eventCase{
		{"id", topicEvent(), func(e *impl.Event) { e.Id = text }, code(1)},
		{"sender", topicEvent(), func(e *impl.Event) { e.Sender = text }, code(1)},
		{"type", topicEvent(), func(e *impl.Event) { e.Type = text }, code(1)},
		{"key", topicEvent(), func(e *impl.Event) { e.Key = text }, code(2)},
		{"member key", memberEvent(), func(e *impl.Event) { e.Key = text }, code(2)},
		{"prev", topicEvent(), func(e *impl.Event) { e.Prev = []string{"$x", text} }, code(4)},
		{"auth", topicEvent(), func(e *impl.Event) { e.Auth = []string{text, "$x"} }, code(4)},
		{"value", topicEvent(), func(e *impl.Event) { e.Value = text }, code(5)},
		{"message value", messageEvent(), func(e *impl.Event) { e.Value = text }, code(5)},
		{"star name", powerEvent(), func(e *impl.Event) { e.Grants = []impl.Grant{{Name: "*" + text}} }, code(5)},
		{"hash name", powerEvent(), func(e *impl.Event) { e.Grants = []impl.Grant{{Name: "#" + text}} }, code(5)},
	})
	// A mark in front makes a name of what is no word.
	if !strings.ContainsAny(text[:1], "*#") {
		checkCodes(t, []eventCase{{"name", powerEvent(), func(e *impl.Event) { e.Grants = []impl.Grant{{Name: text}} }, code(5)}})
	}
}

func TestEmptyTexts(t *testing.T) {
	checkCodes(t, []eventCase{
		{"id", topicEvent(), func(e *impl.Event) { e.Id = "" }, 1},
		{"sender", topicEvent(), func(e *impl.Event) { e.Sender = "" }, 1},
		{"type", topicEvent(), func(e *impl.Event) { e.Type = "" }, 1},
		{"state key", topicEvent(), func(e *impl.Event) { e.Key = "" }, 0},
		{"prev", topicEvent(), func(e *impl.Event) { e.Prev = []string{""} }, 4},
		{"auth", topicEvent(), func(e *impl.Event) { e.Auth = []string{"$c", ""} }, 4},
		{"value", topicEvent(), func(e *impl.Event) { e.Value = "" }, 0},
		{"name", powerEvent(), func(e *impl.Event) { e.Grants[0].Name = "" }, 5},
	})
}

func TestKeys(t *testing.T) {
	checkCodes(t, []eventCase{
		{"state without key", topicEvent(), func(e *impl.Event) {}, 0},
		{"state with key", topicEvent(), func(e *impl.Event) { e.Key = "k" }, 0},
		{"no state, no key", messageEvent(), func(e *impl.Event) {}, 0},
		{"no state with key", messageEvent(), func(e *impl.Event) { e.Key = "k" }, 2},
		{"no state with a key that is no word", messageEvent(), func(e *impl.Event) { e.Key = "-" }, 2},
		{"member without state but with key", memberEvent(), func(e *impl.Event) { e.IsState = false }, 2},
	})
}

func TestTimes(t *testing.T) {
	times := []struct {
		time int
		code int
	}{
		{math.MinInt, 3}, {-impl.MaxTime, 3}, {-1, 3}, {0, 0}, {1, 0}, {9, 0}, {10, 0}, {100, 0}, {999999999999, 0},
		{impl.MaxTime - 1, 0}, {impl.MaxTime, 0}, {impl.MaxTime + 1, 3}, {math.MaxInt, 3},
	}
	for _, c := range times {
		for _, base := range samples() {
			checkCodes(t, []eventCase{{"time", base, func(e *impl.Event) { e.Time = c.time }, c.code}})
		}
	}
}

func TestRefs(t *testing.T) {
	full := numbered("$", impl.MaxRefs)
	over := numbered("$", impl.MaxRefs+1)
	many := numbered("$", 3000)
	twiceAtEnds := numbered("$", impl.MaxRefs)
	twiceAtEnds[impl.MaxRefs-1] = twiceAtEnds[0]
	lists := []struct {
		name string
		refs []string
		code int
	}{
		{"none", nil, 0},
		{"empty", []string{}, 0},
		{"one", full[:1], 0},
		{"full", full, 0},
		{"over", over, 4},
		{"many", many, 4},
		{"twice", []string{"$x", "$x"}, 4},
		{"twice apart", []string{"$x", "$y", "$x"}, 4},
		{"twice at the ends", twiceAtEnds, 4},
		{"own id", []string{"$n"}, 4},
		{"own id last", []string{"$x", "$y", "$n"}, 4},
		{"not a word first", []string{"a-b", "$x"}, 4},
		{"not a word last", []string{"$x", "a,b"}, 4},
		{"alike but for case", []string{"$x", "$X"}, 0},
	}
	for _, c := range lists {
		checkCodes(t, []eventCase{
			{"prev " + c.name, messageEvent(), func(e *impl.Event) { e.Prev = c.refs }, c.code},
			{"auth " + c.name, messageEvent(), func(e *impl.Event) { e.Auth = c.refs }, c.code},
			{"both " + c.name, messageEvent(), func(e *impl.Event) { e.Prev, e.Auth = c.refs, c.refs }, c.code},
		})
	}
}

func TestCreateContent(t *testing.T) {
	checkCodes(t, []eventCase{
		{"plain", createEvent(), func(e *impl.Event) {}, 0},
		{"empty lists", createEvent(), func(e *impl.Event) { e.Prev, e.Auth, e.Grants = []string{}, []string{}, []impl.Grant{} }, 0},
		{"no state", createEvent(), func(e *impl.Event) { e.IsState = false }, 5},
		{"key", createEvent(), func(e *impl.Event) { e.Key = "k" }, 5},
		{"prev", createEvent(), func(e *impl.Event) { e.Prev = []string{"$x"} }, 5},
		{"auth", createEvent(), func(e *impl.Event) { e.Auth = []string{"$x"} }, 5},
		{"value", createEvent(), func(e *impl.Event) { e.Value = "v" }, 5},
		{"grants", createEvent(), func(e *impl.Event) { e.Grants = []impl.Grant{{Name: "@a", Level: 1}} }, 5},
	})
}

func TestMemberContent(t *testing.T) {
	checkCodes(t, []eventCase{
		{"no state", memberEvent(), func(e *impl.Event) { e.IsState, e.Key = false, "" }, 5},
		{"no key", memberEvent(), func(e *impl.Event) { e.Key = "" }, 5},
		{"no refs", memberEvent(), func(e *impl.Event) { e.Prev, e.Auth = nil, nil }, 0},
		{"grants", memberEvent(), func(e *impl.Event) { e.Grants = []impl.Grant{{Name: "@a", Level: 1}} }, 5},
	})
	checkValues(t, memberEvent(), []string{"join", "invite", "leave", "ban"},
		[]string{"", "knock", "public", "Join", "joined", "jo", "join ", " ban", "*", "-"})
}

func TestRulesContent(t *testing.T) {
	checkCodes(t, []eventCase{
		{"no state", rulesEvent(), func(e *impl.Event) { e.IsState = false }, 5},
		{"key", rulesEvent(), func(e *impl.Event) { e.Key = "k" }, 5},
		{"no refs", rulesEvent(), func(e *impl.Event) { e.Prev, e.Auth = nil, nil }, 0},
		{"grants", rulesEvent(), func(e *impl.Event) { e.Grants = []impl.Grant{{Name: "@a", Level: 1}} }, 5},
	})
	checkValues(t, rulesEvent(), []string{"public", "invite"}, []string{"", "join", "leave", "ban", "Public", "publi", "invite ", "-"})
}

func checkValues(t *testing.T, base impl.Event, good, bad []string) {
	t.Helper()
	for _, value := range good {
		checkCodes(t, []eventCase{{base.Type + " " + value, base, func(e *impl.Event) { e.Value = value }, 0}})
	}
	for _, value := range bad {
		checkCodes(t, []eventCase{{base.Type + " " + value, base, func(e *impl.Event) { e.Value = value }, 5}})
	}
}

func TestPowerContent(t *testing.T) {
	checkCodes(t, []eventCase{
		{"no state", powerEvent(), func(e *impl.Event) { e.IsState = false }, 5},
		{"key", powerEvent(), func(e *impl.Event) { e.Key = "k" }, 5},
		{"value", powerEvent(), func(e *impl.Event) { e.Value = "v" }, 5},
		{"value without grants", powerEvent(), func(e *impl.Event) { e.Value, e.Grants = "v", nil }, 5},
		{"no grants", powerEvent(), func(e *impl.Event) { e.Grants = nil }, 0},
		{"no refs", powerEvent(), func(e *impl.Event) { e.Prev, e.Auth = nil, nil }, 0},
		{"full", powerEvent(), func(e *impl.Event) { e.Grants = grantsNamed(numbered("@", impl.MaxGrants)) }, 0},
		{"over", powerEvent(), func(e *impl.Event) { e.Grants = grantsNamed(numbered("@", impl.MaxGrants+1)) }, 5},
		{"long names", powerEvent(), func(e *impl.Event) {
			e.Grants = grantsNamed([]string{"#" + wordOf(impl.MaxWord), "*" + wordOf(impl.MaxWord), wordOf(impl.MaxWord)})
		}, 0},
	})
}

func TestGrantNames(t *testing.T) {
	lists := []struct {
		names []string
		code  int
	}{
		{[]string{"a"}, 0},
		{[]string{"*a"}, 0},
		{[]string{"#a"}, 0},
		{[]string{"*"}, 5},
		{[]string{"#"}, 5},
		{[]string{""}, 5},
		{[]string{"**a"}, 5},
		{[]string{"##a"}, 5},
		{[]string{"#*a"}, 5},
		{[]string{"*#a"}, 5},
		{[]string{"a*"}, 5},
		{[]string{"a#"}, 5},
		{[]string{"*a b"}, 5},
		{[]string{"!a"}, 5},
		{[]string{"-a"}, 5},
		{[]string{"a", "b", "c"}, 0},
		{[]string{"a", "b", "!"}, 5},
		{[]string{"#a", "*a", "@a", "a"}, 0},
		{[]string{"a", "#a"}, 5},
		{[]string{"*a", "#a"}, 5},
		{[]string{"a", "a"}, 5},
		{[]string{"*a", "*a"}, 5},
		{[]string{"a", "b", "b"}, 5},
		{[]string{"b", "a"}, 5},
		{[]string{"a", "c", "b"}, 5},
		{[]string{"B", "a"}, 0},
		{[]string{"a", "B"}, 5},
		{[]string{"a", "aa"}, 0},
		{[]string{"aa", "a"}, 5},
		{[]string{"10", "9"}, 0},
		{[]string{"9", "10"}, 5},
		{[]string{"a+", "a.", "a/", "a0", "a@", "aA", "a_", "aa"}, 0},
	}
	for _, c := range lists {
		checkCodes(t, []eventCase{{strings.Join(c.names, " "), powerEvent(), func(e *impl.Event) { e.Grants = grantsNamed(c.names) }, c.code}})
	}
}

func TestGrantLevels(t *testing.T) {
	levels := []struct {
		level int
		code  int
	}{
		{math.MinInt, 5}, {-impl.MaxLevel - 1, 5}, {-impl.MaxLevel, 0}, {-10, 0}, {-1, 0}, {0, 0}, {1, 0}, {10, 0},
		{impl.MaxLevel, 0}, {impl.MaxLevel + 1, 5}, {math.MaxInt, 5},
	}
	for _, c := range levels {
		for place := range 3 {
			checkCodes(t, []eventCase{{"level", powerEvent(), func(e *impl.Event) { e.Grants[place].Level = c.level }, c.code}})
		}
	}
}

func TestOtherContent(t *testing.T) {
	for _, base := range []impl.Event{topicEvent(), messageEvent()} {
		checkCodes(t, []eventCase{
			{"grants", base, func(e *impl.Event) { e.Grants = []impl.Grant{{Name: "@a", Level: 1}} }, 5},
			{"grants without value", base, func(e *impl.Event) { e.Value, e.Grants = "", []impl.Grant{{Name: "@a", Level: 1}} }, 5},
			{"no refs", base, func(e *impl.Event) { e.Prev, e.Auth = nil, nil }, 0},
		})
		checkValues(t, base, []string{"", "join", "v", "@a/b+c.d_e$"}, []string{"-", ":", "a:b", "a,b", "a b", " ", "=a", "*a"})
	}
	// Types are held against each other byte by byte, so these are other types.
	for _, kind := range []string{"Create", "creates", "members", "power.", "POWER", "join", "join_rule"} {
		checkCodes(t, []eventCase{{kind, messageEvent(), func(e *impl.Event) { e.Type = kind }, 0}})
	}
}

// faults has for each code, but 0, changes that bring it at any of the samples, and no lesser one.
func faults() [6][]func(e *impl.Event) {
	return [6][]func(e *impl.Event){
		1: {
			func(e *impl.Event) { e.Id = "" },
			func(e *impl.Event) { e.Sender = "@a:b" },
			func(e *impl.Event) { e.Id = wordOf(impl.MaxWord + 1) },
		},
		2: {
			func(e *impl.Event) { e.Key = "a b" },
			func(e *impl.Event) { e.Key, e.IsState = "k", false },
		},
		3: {
			func(e *impl.Event) { e.Time = -1 },
			func(e *impl.Event) { e.Time = impl.MaxTime + 1 },
		},
		4: {
			func(e *impl.Event) { e.Prev = []string{"-"} },
			func(e *impl.Event) { e.Auth = []string{"$x", "$x"} },
			func(e *impl.Event) { e.Auth = numbered("$", impl.MaxRefs+1) },
			func(e *impl.Event) { e.Prev = []string{"$y", e.Id} },
		},
		5: {
			func(e *impl.Event) { e.Value = "a-b" },
			func(e *impl.Event) { e.Grants = []impl.Grant{{Name: "b", Level: 1}, {Name: "a", Level: 1}} },
		},
	}
}

func TestFirstCodeOfSeveral(t *testing.T) {
	for _, base := range samples() {
		withFaults(base, 1, 0, func(e impl.Event, first int) {
			if got := impl.EventOk(e); got != first {
				t.Errorf("code %d, not %d: %+v", got, first, e)
			}
			checkText(t, "several", e, first)
		})
	}
}

// withFaults goes through every choice of at most one fault for each code from here on.
func withFaults(e impl.Event, code, first int, visit func(e impl.Event, first int)) {
	if code == 6 {
		visit(e, first)
		return
	}
	withFaults(e, code+1, first, visit)
	if first == 0 {
		first = code
	}
	for _, change := range faults()[code] {
		worse := copyOf(e)
		change(&worse)
		withFaults(worse, code+1, first, visit)
	}
}

func TestArgumentsStay(t *testing.T) {
	for _, e := range samples() {
		kept := copyOf(e)
		impl.EventOk(e)
		impl.EventText(e)
		if !sameEvent(e, kept) {
			t.Errorf("written into: %+v", e)
		}
	}
}
