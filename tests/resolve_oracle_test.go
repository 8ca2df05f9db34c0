package tests

import (
	"slices"

	"loop.example/s01366/impl"
)

// What the document says of resolution, told a second time by going through lists alone: the random tests hold the program against it.

func inAll(states [][]impl.Entry, e impl.Entry) bool {
	for _, s := range states {
		if !slices.Contains(s, e) {
			return false
		}
	}
	return true
}

func wantedSplit(states [][]impl.Entry) ([]impl.Entry, []string, bool) {
	var same []impl.Entry
	others := map[string]bool{}
	for i, s := range states {
		if len(states) > 20 || !wantedStateOk(s) {
			return nil, nil, false
		}
		for _, e := range s {
			if !inAll(states, e) {
				others[e.Id] = true
			} else if i == 0 {
				same = append(same, e)
			}
		}
	}
	return same, sortedKeys(others), true
}

func wantedConflicted(r impl.Room, states [][]impl.Entry) ([]string, bool) {
	_, disputed, ok := wantedSplit(states)
	if !ok || !wantedRoomOk(r) {
		return nil, false
	}
	var sets [][]string
	for _, s := range states {
		if !wantedFitsValid(r, s) {
			return nil, false
		}
		var ids []string
		for _, e := range s {
			ids = append(ids, e.Id)
		}
		sets = append(sets, ids)
	}
	both := slices.Concat(disputed, wantedDiff(r, sets))
	slices.Sort(both)
	return slices.Compact(both), true
}

// powerFor is the empty event for an event without a power.
func powerFor(r impl.Room, e impl.Event) impl.Event {
	for _, id := range e.Auth {
		if power := eventNamed(r, id); power.Type == "power" {
			return power
		}
	}
	return impl.Event{}
}

func wantedAuthor(r impl.Room, e impl.Event) int {
	return wantedUserLevel(r.Events[0], powerFor(r, e), e.Sender)
}

func wantedWeighty(e impl.Event) bool {
	return e.Type == "power" || e.Type == "join_rules" || e.Type == "member" && e.Sender != e.Key && (e.Value == "leave" || e.Value == "ban")
}

// wantedTaken goes through the room, so that an id given twice counts once.
func wantedTaken(r impl.Room, ids []string) []impl.Event {
	var weighty []string
	for _, id := range ids {
		if wantedWeighty(eventNamed(r, id)) {
			weighty = append(weighty, id)
		}
	}
	chain := wantedChain(r, weighty)
	var taken []impl.Event
	for _, e := range r.Events {
		if slices.Contains(ids, e.Id) && (chain[e.Id] || slices.Contains(weighty, e.Id)) {
			taken = append(taken, e)
		}
	}
	return taken
}

// goesBefore asks the greater weight, then the lesser Time, then the lesser Id.
func goesBefore(a, b impl.Event, weight func(e impl.Event) int) bool {
	if weight(a) != weight(b) {
		return weight(a) > weight(b)
	}
	if a.Time != b.Time {
		return a.Time < b.Time
	}
	return a.Id < b.Id
}

// firstOf takes the one that goes before all others out of a list that is not empty.
func firstOf(events []impl.Event, weight func(e impl.Event) int) impl.Event {
	first := events[0]
	for _, e := range events {
		if goesBefore(e, first, weight) {
			first = e
		}
	}
	return first
}

func withoutEvent(events []impl.Event, id string) []impl.Event {
	return slices.DeleteFunc(slices.Clone(events), func(e impl.Event) bool { return e.Id == id })
}

func wantedPowerOrder(r impl.Room, ids []string) ([]string, bool) {
	if !wantedRoomOk(r) || !idsFit(r, ids) {
		return nil, false
	}
	return wantedPowerOrderValid(r, ids), true
}

func wantedPowerOrderValid(r impl.Room, ids []string) []string {
	var order []string
	for waiting := wantedTaken(r, ids); len(waiting) > 0; {
		var ready []impl.Event
		for _, e := range waiting {
			if !slices.ContainsFunc(e.Auth, func(id string) bool { return hasId(waiting, id) }) {
				ready = append(ready, e)
			}
		}
		next := firstOf(ready, func(e impl.Event) int { return wantedAuthor(r, e) })
		order = append(order, next.Id)
		waiting = withoutEvent(waiting, next.Id)
	}
	return order
}

func wantedMainline(r impl.Room, id string) ([]string, bool) {
	if !wantedRoomOk(r) || id != "" && eventNamed(r, id).Type != "power" {
		return nil, false
	}
	return wantedLine(r, id), true
}

func wantedLine(r impl.Room, id string) []string {
	if id == "" {
		return nil
	}
	return append([]string{id}, wantedLine(r, powerFor(r, eventNamed(r, id)).Id)...)
}

func wantedDepth(r impl.Room, e impl.Event, line []string) int {
	if depth := slices.Index(line, e.Id); depth >= 0 {
		return depth
	}
	if power := powerFor(r, e); isThere(power) {
		return wantedDepth(r, power, line)
	}
	return len(line)
}

func wantedMainOrder(r impl.Room, ids []string, power string) ([]string, bool) {
	line, ok := wantedMainline(r, power)
	if !ok || !idsFit(r, ids) {
		return nil, false
	}
	return wantedMainOrderValid(r, ids, line), true
}

func wantedMainOrderValid(r impl.Room, ids []string, line []string) []string {
	var waiting []impl.Event
	for _, e := range r.Events {
		if slices.Contains(ids, e.Id) {
			waiting = append(waiting, e)
		}
	}
	var order []string
	for len(waiting) > 0 {
		next := firstOf(waiting, func(e impl.Event) int { return wantedDepth(r, e, line) })
		order = append(order, next.Id)
		waiting = withoutEvent(waiting, next.Id)
	}
	return order
}

func wantedResolve(r impl.Room, states [][]impl.Entry) ([]impl.Entry, bool) {
	conflicted, ok := wantedConflicted(r, states)
	if !ok {
		return nil, false
	}
	same, _, _ := wantedSplit(states)
	first := wantedPowerOrderValid(r, conflicted)
	hand := afterTries(r, same, first)
	var others []string
	for _, id := range conflicted {
		if !slices.Contains(first, id) {
			others = append(others, id)
		}
	}
	line := wantedLine(r, idAt(hand, "power", ""))
	hand = afterTries(r, hand, wantedMainOrderValid(r, others, line))
	return afterChanges(hand, same), true
}

func afterTries(r impl.Room, hand []impl.Entry, order []string) []impl.Entry {
	for _, id := range order {
		e := eventNamed(r, id)
		if e.IsState && wantedVerdict(r, triedIn(r, hand, e), e) == 0 {
			hand = withChange(hand, entryFor(e))
		}
	}
	return hand
}

// triedIn is the state that is made for one event: from behind, so that what comes first is put last.
func triedIn(r impl.Room, hand []impl.Entry, e impl.Event) []impl.Entry {
	var s []impl.Entry
	for _, slot := range wantedNeeded(e) {
		for _, id := range slices.Backward(e.Auth) {
			if auth := eventNamed(r, id); isAtSlot(auth, slot.Type, slot.Key) {
				s = withChange(s, entryFor(auth))
			}
		}
		if id := idAt(hand, slot.Type, slot.Key); id != "" {
			s = withChange(s, entry(slot.Type, slot.Key, id))
		}
	}
	return s
}
