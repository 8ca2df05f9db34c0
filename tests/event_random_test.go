package tests

import (
	"math/rand"
	"reflect"
	"regexp"
	"slices"
	"strconv"
	"strings"
	"testing"

	"loop.example/s01366/impl"
)

// What the document says of events, told a second time by other means: the random tests hold the program against it.

var (
	wordForm  = regexp.MustCompile(`^[A-Za-z0-9_.@$/+]{1,40}$`)
	nameForm  = regexp.MustCompile(`^[*#]?[A-Za-z0-9_.@$/+]{1,40}$`)
	grantForm = `[^ :,]*:(?:0|-?[1-9][0-9]{0,12})`
	lineForm  = regexp.MustCompile(`^([^ ]+) ([^ ]+) ([^ ]+) (-|=[^ ]*) (0|[1-9][0-9]{0,12}) ([^ ]+) ([^ ]+) ([^ :]+|` + grantForm + `(?:,` + grantForm + `)*)$`)
)

func wantedCode(e impl.Event) int {
	badWord := func(text string) bool { return !wordForm.MatchString(text) }
	if badWord(e.Id) || badWord(e.Sender) || badWord(e.Type) {
		return 1
	}
	if e.Key != "" && (!e.IsState || badWord(e.Key)) {
		return 2
	}
	if e.Time < 0 || 1000000000000 < e.Time {
		return 3
	}
	for _, list := range [][]string{e.Prev, e.Auth} {
		once := slices.Compact(slices.Sorted(slices.Values(list)))
		if len(list) > 10 || len(once) < len(list) || slices.ContainsFunc(list, badWord) || slices.Contains(list, e.Id) {
			return 4
		}
	}
	if !wantedFit(e) {
		return 5
	}
	return 0
}

func wantedFit(e impl.Event) bool {
	values := map[string]string{"create": "|", "power": "|", "join_rules": "|public|invite|", "member": "|join|invite|leave|ban|"}
	held, special := values[e.Type]
	if !special {
		return len(e.Grants) == 0 && (e.Value == "" || wordForm.MatchString(e.Value))
	}
	asked := "|"
	if e.Value != "" {
		asked = "|" + e.Value + "|"
	}
	if !e.IsState || (e.Key == "") != (e.Type != "member") || !strings.Contains(held, asked) || held != "|" && asked == "|" {
		return false
	}
	if e.Type == "create" && len(e.Prev)+len(e.Auth) > 0 {
		return false
	}
	return len(e.Grants) == 0 || e.Type == "power" && wantedGrants(e.Grants)
}

func wantedGrants(grants []impl.Grant) bool {
	seen := map[string]int{}
	var names []string
	for _, g := range grants {
		seen[g.Name]++
		names = append(names, g.Name)
		if !nameForm.MatchString(g.Name) || g.Level > 1000000 || -g.Level > 1000000 {
			return false
		}
	}
	return len(grants) <= 50 && len(seen) == len(names) && slices.IsSorted(names)
}

func wantedParse(line string) (impl.Event, int) {
	m := lineForm.FindStringSubmatch(line)
	if m == nil {
		return impl.Event{}, 1
	}
	e := impl.Event{Id: m[1], Sender: m[2], Type: m[3], IsState: m[4] != "-"}
	if e.IsState {
		e.Key = m[4][1:]
	}
	e.Time, _ = strconv.Atoi(m[5])
	for i, list := range []*[]string{&e.Prev, &e.Auth} {
		if m[6+i] != "-" {
			*list = strings.Split(m[6+i], ",")
		}
	}
	if strings.Contains(m[8], ":") {
		for _, text := range strings.Split(m[8], ",") {
			name, level, _ := strings.Cut(text, ":")
			n, _ := strconv.Atoi(level)
			e.Grants = append(e.Grants, impl.Grant{Name: name, Level: n})
		}
	} else if m[8] != "-" {
		e.Value = m[8]
	}
	if code := wantedCode(e); code != 0 {
		return impl.Event{}, code + 1
	}
	return e, 0
}

func pick[T any](random *rand.Rand, choices ...T) T {
	return choices[random.Intn(len(choices))]
}

func randomWord(random *rand.Rand) string {
	length := pick(random, 1, 2, 3, impl.MaxWord-1, impl.MaxWord)
	word := make([]byte, length)
	for i := range word {
		word[i] = wordBytes[random.Intn(len(wordBytes))]
	}
	return string(word)
}

func randomRefs(random *rand.Rand) []string {
	var refs []string
	for range pick(random, 0, 1, 2, 3, impl.MaxRefs) {
		refs = append(refs, randomWord(random))
	}
	slices.Sort(refs)
	refs = slices.Compact(refs)
	random.Shuffle(len(refs), func(i, j int) { refs[i], refs[j] = refs[j], refs[i] })
	return refs
}

func randomGrants(random *rand.Rand) []impl.Grant {
	var names []string
	for range pick(random, 0, 1, 2, 5, impl.MaxGrants) {
		names = append(names, pick(random, "", "*", "#")+randomWord(random))
	}
	slices.Sort(names)
	grants := grantsNamed(slices.Compact(names))
	for i := range grants {
		grants[i].Level = pick(random, 0, 1, -1, impl.MaxLevel, -impl.MaxLevel, random.Intn(2*impl.MaxLevel)-impl.MaxLevel)
	}
	return grants
}

// randomEvent is nearly always well formed: an element may be the Id by chance.
func randomEvent(random *rand.Rand) impl.Event {
	e := pick(random, samples()...)
	e.Id, e.Sender = randomWord(random), randomWord(random)
	e.Time = pick(random, 0, 1, impl.MaxTime, random.Intn(impl.MaxTime))
	if e.Type != "create" {
		e.Prev, e.Auth = randomRefs(random), randomRefs(random)
	}
	switch e.Type {
	case "member":
		e.Key, e.Value = randomWord(random), pick(random, "join", "invite", "leave", "ban")
	case "join_rules":
		e.Value = pick(random, "public", "invite")
	case "power":
		e.Grants = randomGrants(random)
	case "topic":
		e.Type, e.Key, e.Value = randomWord(random), pick(random, "", randomWord(random)), pick(random, "", randomWord(random))
	case "msg":
		e.Value = pick(random, "", randomWord(random))
	}
	return e
}

func spoiled(random *rand.Rand, base impl.Event) impl.Event {
	e := copyOf(base)
	text := pick(random, "", "-", "a b", "k", "join", "a:1", "*k", wordOf(impl.MaxWord), wordOf(impl.MaxWord+1), "é")
	switch random.Intn(10) {
	case 0:
		e.Id = text
	case 1:
		e.Sender = text
	case 2:
		e.Type = pick(random, text, "create", "member", "join_rules", "power", "topic")
	case 3:
		e.IsState = !e.IsState
	case 4:
		e.Key = text
	case 5:
		e.Time = pick(random, -1, impl.MaxTime+1)
	case 6:
		e.Prev = append(e.Prev, pick(random, text, e.Id, "$x"))
	case 7:
		e.Auth = append(e.Auth, pick(random, text, e.Id, "$x"))
	case 8:
		e.Value = text
	case 9:
		e.Grants = append(e.Grants, impl.Grant{Name: text, Level: pick(random, 0, impl.MaxLevel+1, -impl.MaxLevel-1)})
	}
	return e
}

func TestRandomEvents(t *testing.T) {
	random := rand.New(rand.NewSource(1))
	var counts [6]int
	for range 30000 {
		e := randomEvent(random)
		for range random.Intn(4) {
			e = spoiled(random, e)
		}
		want := wantedCode(e)
		counts[want]++
		if got := impl.EventOk(e); got != want {
			t.Fatalf("code %d, not %d: %+v", got, want, e)
		}
		checkText(t, "random", e, want)
	}
	for code, count := range counts {
		if count < 100 {
			t.Errorf("code %d came only %d times", code, count)
		}
	}
}

func mangled(random *rand.Rand, line string) string {
	bytes := []byte(line)
	at := random.Intn(len(bytes) + 1)
	for range 1 + random.Intn(2) {
		b := pick(random, []byte(" -=,:*#09a@%\n\xff")...)
		switch random.Intn(3) {
		case 0:
			bytes = slices.Insert(bytes, at, b)
		case 1:
			if at < len(bytes) {
				bytes[at] = b
			}
		case 2:
			if at < len(bytes) {
				bytes = slices.Delete(bytes, at, at+1)
			}
		}
		at = random.Intn(len(bytes) + 1)
	}
	return string(bytes)
}

func mistimed(random *rand.Rand, line string) string {
	pieces := strings.Split(line, " ")
	if len(pieces) == 8 {
		pieces[4] = pick(random, "1000000000001", "9999999999999", "10000000000000", "05", "-1")
	}
	return strings.Join(pieces, " ")
}

func TestRandomLines(t *testing.T) {
	random := rand.New(rand.NewSource(2))
	var counts [7]int
	for range 60000 {
		line, ok := impl.EventText(pick(random, randomEvent(random), pick(random, samples()...)))
		if !ok {
			continue
		}
		if random.Intn(8) > 0 {
			line = mangled(random, line)
		}
		if random.Intn(20) == 0 {
			line = mistimed(random, line)
		}
		want, wantCode := wantedParse(line)
		e, code := impl.ParseEvent(line)
		counts[wantCode]++
		if code != wantCode || !sameEvent(e, want) {
			t.Fatalf("%q: code %d, not %d: %+v", line, code, wantCode, e)
		}
		if code != 0 && !reflect.DeepEqual(e, impl.Event{}) {
			t.Fatalf("%q: code %d with %+v", line, code, e)
		}
		if text, ok := impl.EventText(e); code == 0 && (!ok || text != line) {
			t.Fatalf("%q: written again it is %q, %v", line, text, ok)
		}
	}
	for code, count := range counts {
		if count < 100 {
			t.Errorf("code %d came only %d times", code, count)
		}
	}
}
