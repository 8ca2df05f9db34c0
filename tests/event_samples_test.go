package tests

import (
	"slices"
	"strconv"
	"strings"

	"loop.example/s01366/impl"
)

func wordOf(length int) string {
	return strings.Repeat("w", length)
}

func numbered(prefix string, count int) []string {
	var names []string
	for i := range count {
		names = append(names, prefix+strconv.Itoa(1000+i))
	}
	return names
}

func grantsNamed(names []string) []impl.Grant {
	var grants []impl.Grant
	for i, name := range names {
		grants = append(grants, impl.Grant{Name: name, Level: i})
	}
	return grants
}

func createEvent() impl.Event {
	return impl.Event{Id: "$c", Sender: "@a", Type: "create", IsState: true}
}

func memberEvent() impl.Event {
	return impl.Event{Id: "$m", Sender: "@a", Type: "member", IsState: true, Key: "@b", Time: 3, Prev: []string{"$x"}, Auth: []string{"$x"}, Value: "invite"}
}

func rulesEvent() impl.Event {
	return impl.Event{Id: "$j", Sender: "@a", Type: "join_rules", IsState: true, Time: 4, Prev: []string{"$x"}, Auth: []string{"$x", "$y"}, Value: "public"}
}

func powerEvent() impl.Event {
	return impl.Event{Id: "$p", Sender: "@a", Type: "power", IsState: true, Time: 5, Prev: []string{"$x"}, Auth: []string{"$y"},
		Grants: []impl.Grant{{Name: "#topic", Level: -5}, {Name: "*ban", Level: 50}, {Name: "@a", Level: 100}}}
}

func topicEvent() impl.Event {
	return impl.Event{Id: "$t", Sender: "@a", Type: "topic", IsState: true, Time: 6, Prev: []string{"$x", "$y"}, Auth: []string{"$c"}, Value: "hi"}
}

func messageEvent() impl.Event {
	return impl.Event{Id: "$n", Sender: "@a", Type: "msg", Time: 7, Prev: []string{"$x"}, Auth: []string{"$c", "$p"}, Value: "hello"}
}

func samples() []impl.Event {
	return []impl.Event{createEvent(), memberEvent(), rulesEvent(), powerEvent(), topicEvent(), messageEvent()}
}

func copyOf(e impl.Event) impl.Event {
	e.Prev = slices.Clone(e.Prev)
	e.Auth = slices.Clone(e.Auth)
	e.Grants = slices.Clone(e.Grants)
	return e
}

// sameEvent holds an empty list and nil for the same, as the document does.
func sameEvent(a, b impl.Event) bool {
	return a.Id == b.Id && a.Sender == b.Sender && a.Type == b.Type && a.IsState == b.IsState && a.Key == b.Key && a.Time == b.Time && a.Value == b.Value &&
		slices.Equal(a.Prev, b.Prev) && slices.Equal(a.Auth, b.Auth) && slices.Equal(a.Grants, b.Grants)
}
