package tests

import (
	"slices"

	"loop.example/s01366/impl"
)

// What the document says of states and stores, told a second time by going through lists alone: the random tests hold the program against it.

func slotBefore(a, b impl.Entry) bool {
	return a.Type < b.Type || a.Type == b.Type && a.Key < b.Key
}

func sameSlot(a, b impl.Entry) bool {
	return a.Type == b.Type && a.Key == b.Key
}

func wantedOrder(s []impl.Entry) bool {
	for i, b := range s {
		for _, a := range s[:i] {
			if !slotBefore(a, b) {
				return false
			}
		}
	}
	return true
}

func wantedStateOk(s []impl.Entry) bool {
	for _, e := range s {
		if e.Id == "" {
			return false
		}
	}
	return len(s) <= 300 && wantedOrder(s)
}

func wantedChangesOk(changes []impl.Entry) bool {
	return len(changes) <= 600 && wantedOrder(changes)
}

// idAt is empty where nothing is.
func idAt(s []impl.Entry, kind, key string) string {
	for _, e := range s {
		if sameSlot(e, entry(kind, key, "")) {
			return e.Id
		}
	}
	return ""
}

func wantedFind(s []impl.Entry, kind, key string) (string, bool) {
	if !wantedStateOk(s) {
		return "", false
	}
	id := idAt(s, kind, key)
	return id, id != ""
}

// withChange looks for the place of one change in entries that are in order.
func withChange(s []impl.Entry, change impl.Entry) []impl.Entry {
	var out []impl.Entry
	for _, e := range s {
		if slotBefore(e, change) {
			out = append(out, e)
		}
	}
	if change.Id != "" {
		out = append(out, change)
	}
	for _, e := range s {
		if slotBefore(change, e) {
			out = append(out, e)
		}
	}
	return out
}

func afterChanges(s []impl.Entry, changes []impl.Entry) []impl.Entry {
	for _, change := range changes {
		s = withChange(s, change)
	}
	return s
}

func wantedPatch(a, changes []impl.Entry) ([]impl.Entry, bool) {
	if !wantedStateOk(a) || !wantedChangesOk(changes) {
		return nil, false
	}
	s := afterChanges(a, changes)
	if len(s) > 300 {
		return nil, false
	}
	return s, true
}

func wantedPut(s []impl.Entry, e impl.Entry) ([]impl.Entry, bool) {
	if !wantedStateOk(s) || e.Id == "" {
		return nil, false
	}
	out := withChange(s, e)
	if len(out) > 300 {
		return nil, false
	}
	return out, true
}

func wantedDelta(a, b []impl.Entry) ([]impl.Entry, bool) {
	if !wantedStateOk(a) || !wantedStateOk(b) {
		return nil, false
	}
	var changes []impl.Entry
	for _, e := range a {
		if idAt(b, e.Type, e.Key) == "" {
			changes = append(changes, entry(e.Type, e.Key, ""))
		}
	}
	for _, e := range b {
		if idAt(a, e.Type, e.Key) != e.Id {
			changes = withChange(changes, e)
		}
	}
	return changes, true
}

func hasGroup(st impl.Store, group int) bool {
	return group >= 0 && group < len(st.Groups)
}

// pathOf goes from a group to one without a Parent, in a store whose Parents are positions in front.
func pathOf(st impl.Store, group int) []impl.Group {
	path := []impl.Group{st.Groups[group]}
	for path[len(path)-1].Parent >= 0 {
		path = append(path, st.Groups[path[len(path)-1].Parent])
	}
	return path
}

func wantedState(st impl.Store, group int) []impl.Entry {
	path := pathOf(st, group)
	slices.Reverse(path)
	s := path[0].Sets
	for _, g := range path[1:] {
		s = afterChanges(s, g.Sets)
	}
	return s
}

func wantedStoreOk(st impl.Store) bool {
	if len(st.Groups) > 1000 {
		return false
	}
	for i, g := range st.Groups {
		if g.Parent < -1 || g.Parent >= i {
			return false
		}
	}
	for i, g := range st.Groups {
		if g.Parent == -1 && !wantedStateOk(g.Sets) || !wantedChangesOk(g.Sets) {
			return false
		}
		if len(pathOf(st, i)) > 5 || len(wantedState(st, i)) > 300 {
			return false
		}
	}
	return true
}

func wantedSave(st impl.Store, s []impl.Entry, near int) (impl.Store, int) {
	if !wantedStoreOk(st) || !wantedStateOk(s) {
		return impl.Store{}, -1
	}
	for i := range st.Groups {
		if slices.Equal(wantedState(st, i), s) {
			return st, i
		}
	}
	if len(st.Groups) == 1000 {
		return impl.Store{}, -1
	}
	group := impl.Group{Parent: -1, Sets: s}
	if hasGroup(st, near) && len(pathOf(st, near)) < 5 {
		group.Parent = near
		group.Sets, _ = wantedDelta(wantedState(st, near), s)
	}
	return impl.Store{Groups: append(slices.Clone(st.Groups), group)}, len(st.Groups)
}

func wantedExpand(st impl.Store, group int) ([]impl.Entry, bool) {
	if !wantedStoreOk(st) || !hasGroup(st, group) {
		return nil, false
	}
	return wantedState(st, group), true
}

func wantedLookup(st impl.Store, group int, kind, key string) (string, int, bool) {
	if !wantedStoreOk(st) || !hasGroup(st, group) {
		return "", 0, false
	}
	visited := 0
	for _, g := range pathOf(st, group) {
		visited++
		for _, e := range g.Sets {
			if sameSlot(e, entry(kind, key, "")) {
				return e.Id, visited, e.Id != ""
			}
		}
	}
	return "", visited, false
}
