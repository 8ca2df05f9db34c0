package tests

import (
	"slices"
	"strings"

	"loop.example/s01366/impl"
)

// What the document says of levels and rules, told a second time by going through lists alone: the random tests hold the program against it.

func isAtSlot(e impl.Event, kind, key string) bool {
	return e.IsState && e.Type == kind && e.Key == key
}

func wantedFits(r impl.Room, s []impl.Entry) bool {
	return wantedRoomOk(r) && wantedFitsValid(r, s)
}

// wantedFitsValid is for a room that is known to be valid, since asking that takes long.
func wantedFitsValid(r impl.Room, s []impl.Entry) bool {
	for _, e := range s {
		if !isAtSlot(eventNamed(r, e.Id), e.Type, e.Key) {
			return false
		}
	}
	return wantedStateOk(s)
}

// eventNamed is the empty event for an id that is not in the room, the empty id too.
func eventNamed(r impl.Room, id string) impl.Event {
	for _, e := range r.Events {
		if e.Id == id {
			return e
		}
	}
	return impl.Event{}
}

// eventIn is the empty event where none is.
func eventIn(r impl.Room, s []impl.Entry, kind, key string) impl.Event {
	return eventNamed(r, idAt(s, kind, key))
}

func isThere(e impl.Event) bool {
	return e.Id != ""
}

func wantedNeeded(e impl.Event) []impl.Slot {
	if wantedCode(e) != 0 {
		return nil
	}
	slots := []impl.Slot{{Type: "create"}}
	if e.Type == "create" {
		return slots
	}
	if e.Type == "member" && e.Value == "join" {
		slots = append(slots, impl.Slot{Type: "join_rules"})
	}
	if e.Type == "member" && e.Key < e.Sender {
		slots = append(slots, impl.Slot{Type: "member", Key: e.Key})
	}
	slots = append(slots, impl.Slot{Type: "member", Key: e.Sender})
	if e.Type == "member" && e.Key > e.Sender {
		slots = append(slots, impl.Slot{Type: "member", Key: e.Key})
	}
	return append(slots, impl.Slot{Type: "power"})
}

// firstGrant is the level of the first of the names that has a Grant.
func firstGrant(power impl.Event, otherwise int, names ...string) int {
	for _, name := range names {
		for _, g := range power.Grants {
			if g.Name == name {
				return g.Level
			}
		}
	}
	return otherwise
}

func wantedUserLevel(create, power impl.Event, user string) int {
	switch {
	case isThere(power):
		return firstGrant(power, 0, user, "*default")
	case isThere(create) && create.Sender == user:
		return 100
	}
	return 0
}

func wantedThingLevel(power impl.Event, thing string) int {
	defaults := map[string]int{"ban": 50, "kick": 50, "invite": 0, "act": 0, "state": 0}
	if isThere(power) {
		defaults["state"] = 50
	}
	return firstGrant(power, defaults[thing], "*"+thing)
}

func wantedLevelOf(r impl.Room, s []impl.Entry, user string) int {
	if !wantedFits(r, s) {
		return 0
	}
	return wantedUserLevel(eventIn(r, s, "create", ""), eventIn(r, s, "power", ""), user)
}

func wantedAllowed(r impl.Room, s []impl.Entry, e impl.Event) int {
	if wantedCode(e) != 0 || !wantedFits(r, s) {
		return 99
	}
	return wantedVerdict(r, s, e)
}

// wantedVerdict is for a well-formed event and a state that fits.
func wantedVerdict(r impl.Room, s []impl.Entry, e impl.Event) int {
	create := eventIn(r, s, "create", "")
	if e.Type == "create" && isThere(create) {
		return 1
	}
	if e.Type == "create" {
		return 0
	}
	if !isThere(create) {
		return 2
	}
	if e.Type == "member" && e.Value == "join" {
		return wantedJoin(r, s, e)
	}
	if e.Type == "member" && e.Value == "leave" && e.Sender == e.Key {
		if t := membershipIn(r, s, e.Key); t == "join" || t == "invite" {
			return 0
		}
		return 10
	}
	if membershipIn(r, s, e.Sender) != "join" {
		return 6
	}
	if e.Type == "member" {
		return wantedOverOthers(r, s, e)
	}
	return wantedPlain(r, s, e)
}

func membershipIn(r impl.Room, s []impl.Entry, user string) string {
	if member := eventIn(r, s, "member", user); isThere(member) {
		return member.Value
	}
	return "leave"
}

func wantedJoin(r impl.Room, s []impl.Entry, e impl.Event) int {
	if e.Sender != e.Key {
		return 3
	}
	switch membershipIn(r, s, e.Key) {
	case "ban":
		return 4
	case "join", "invite":
		return 0
	}
	if eventIn(r, s, "join_rules", "").Value == "public" {
		return 0
	}
	if eventIn(r, s, "create", "").Sender == e.Sender && !isThere(eventIn(r, s, "member", e.Key)) {
		return 0
	}
	return 5
}

func wantedOverOthers(r impl.Room, s []impl.Entry, e impl.Event) int {
	create, power := eventIn(r, s, "create", ""), eventIn(r, s, "power", "")
	level, keyLevel := wantedUserLevel(create, power, e.Sender), wantedUserLevel(create, power, e.Key)
	t := membershipIn(r, s, e.Key)
	if e.Value == "invite" && (t == "join" || t == "ban") {
		return 7
	}
	things := map[string][]string{"invite": {"invite"}, "ban": {"ban"}, "leave": {"kick"}}[e.Value]
	if e.Value == "leave" && t == "ban" {
		things = append(things, "ban")
	}
	for _, thing := range things {
		if level < wantedThingLevel(power, thing) {
			return 8
		}
	}
	if e.Value != "invite" && keyLevel >= level {
		return 9
	}
	return 0
}

func wantedPlain(r impl.Room, s []impl.Entry, e impl.Event) int {
	create, power := eventIn(r, s, "create", ""), eventIn(r, s, "power", "")
	level := wantedUserLevel(create, power, e.Sender)
	thing := map[bool]string{true: "state", false: "act"}[e.IsState]
	if level < firstGrant(power, wantedThingLevel(power, thing), "#"+e.Type) {
		return 8
	}
	if e.IsState && strings.HasPrefix(e.Key, "@") && e.Key != e.Sender {
		return 11
	}
	if e.Type == "power" && isThere(power) && wantedOverreach(power.Grants, e.Grants, level, e.Sender) {
		return 12
	}
	return 0
}

// wantedOverreach goes through the Grants that stand in one of the lists alone: those of a Name with two levels are two of them.
func wantedOverreach(before, after []impl.Grant, level int, sender string) bool {
	for _, g := range before {
		if slices.Contains(after, g) {
			continue
		}
		if g.Level > level || g.Level == level && wordForm.MatchString(g.Name) && g.Name != sender {
			return true
		}
	}
	for _, g := range after {
		if !slices.Contains(before, g) && g.Level > level {
			return true
		}
	}
	return false
}
