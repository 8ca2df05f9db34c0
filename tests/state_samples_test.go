package tests

import (
	"math/rand"
	"reflect"
	"slices"
	"strconv"
	"strings"
	"testing"

	"loop.example/s01366/impl"
)

func entry(kind, key, id string) impl.Entry {
	return impl.Entry{Type: kind, Key: key, Id: id}
}

// entriesOf reads entries written as TYPE/KEY=ID with blanks between; nothing behind the equals sign is an empty Id.
func entriesOf(text string) []impl.Entry {
	var entries []impl.Entry
	for _, piece := range strings.Fields(text) {
		slot, id, _ := strings.Cut(piece, "=")
		kind, key, _ := strings.Cut(slot, "/")
		entries = append(entries, entry(kind, key, id))
	}
	return entries
}

// numberedEntries are in order; different prefixes and numbers have different slots.
func numberedEntries(prefix string, count int) []impl.Entry {
	var entries []impl.Entry
	for i, key := range numbered("k", count) {
		entries = append(entries, entry(prefix, key, "$"+strconv.Itoa(i)))
	}
	return entries
}

func takenOut(entries []impl.Entry) []impl.Entry {
	out := slices.Clone(entries)
	for i := range out {
		out[i].Id = ""
	}
	return out
}

// badStates are lists that are no states, each for one reason.
func badStates() map[string][]impl.Entry {
	full := numberedEntries("n", impl.MaxEntries)
	return map[string][]impl.Entry{
		"types out of order":         entriesOf("b/=1 a/=2"),
		"keys out of order":          entriesOf("a/y=1 a/x=2"),
		"an empty key behind":        entriesOf("a/x=1 a/=2"),
		"the last out of order":      entriesOf("a/=1 b/=2 d/=3 c/=4"),
		"key before type":            entriesOf("b/a=1 a/b=2"),
		"slots run together":         entriesOf("ab/=1 a/b=2"),
		"bytes, not letters":         entriesOf("a/=1 B/=2"),
		"a slot twice":               entriesOf("a/x=1 a/x=2"),
		"a slot twice with its id":   entriesOf("a/x=1 a/x=1"),
		"the last slot twice":        entriesOf("a/=1 b/=2 b/=2"),
		"an empty id":                entriesOf("a/x="),
		"an empty id at the head":    entriesOf("a/= b/=1 c/=1"),
		"an empty id within":         entriesOf("a/=1 b/= c/=1"),
		"an empty id at the end":     entriesOf("a/=1 b/=1 c/="),
		"one entry too many":         numberedEntries("n", impl.MaxEntries+1),
		"many entries too many":      numberedEntries("n", 3*impl.MaxEntries),
		"full and out of order":      append(slices.Clone(full[1:]), full[0]),
		"full and twice at the end":  append(slices.Clone(full[:impl.MaxEntries-1]), full[impl.MaxEntries-2]),
		"full and empty at the end":  append(slices.Clone(full[:impl.MaxEntries-1]), entry("o", "", "")),
		"full and empty at the head": append(entriesOf("a/="), full[1:]...),
	}
}

// badChanges are lists that are no changes, each for one reason.
func badChanges() map[string][]impl.Entry {
	full := numberedEntries("n", 2*impl.MaxEntries)
	return map[string][]impl.Entry{
		"types out of order":          entriesOf("b/=1 a/=2"),
		"keys out of order":           entriesOf("a/y=1 a/x=2"),
		"out of order, taken out":     entriesOf("b/= a/="),
		"the last out of order":       entriesOf("a/=1 b/= d/=3 c/="),
		"slots run together":          entriesOf("ab/=1 a/b=2"),
		"a slot twice":                entriesOf("a/x=1 a/x=2"),
		"a slot twice with its id":    entriesOf("a/x=1 a/x=1"),
		"a slot twice, taken out":     entriesOf("a/x= a/x="),
		"a slot set and taken out":    entriesOf("a/x=1 a/x="),
		"one change too many":         takenOut(numberedEntries("n", 2*impl.MaxEntries+1)),
		"many changes too many":       takenOut(numberedEntries("n", 5*impl.MaxEntries)),
		"twice full and out of order": takenOut(append(slices.Clone(full[1:]), full[0])),
	}
}

func roomyEntries(entries []impl.Entry) []impl.Entry {
	return roomy(entries, entry("behind", "", "behind"))
}

func markEntry(i int) impl.Entry {
	return entry(markText(i), "mark", "mark")
}

// checkKeptEntries calls ask, writes over all the memory of its answers, and says so when an argument is not what it was.
func checkKeptEntries(t *testing.T, name string, arguments [][]impl.Entry, ask func() []impl.Entry) {
	t.Helper()
	var before, after [][]impl.Entry
	for _, list := range arguments {
		before = append(before, upToCap(list))
	}
	apart([][]impl.Entry{ask()}, markEntry)
	for _, list := range arguments {
		after = append(after, upToCap(list))
	}
	if !reflect.DeepEqual(before, after) {
		t.Errorf("%s: an argument was written into, or an answer shares its memory", name)
	}
}

// fewSlots has slots that are near to each other, so that random lists often meet in one.
func fewSlots() []impl.Slot {
	var slots []impl.Slot
	for _, kind := range []string{"", "B", "a", "ab", "member"} {
		for _, key := range []string{"", "@x", "b", "ba"} {
			slots = append(slots, impl.Slot{Type: kind, Key: key})
		}
	}
	return slots
}

func manySlots() []impl.Slot {
	var slots []impl.Slot
	for _, e := range numberedEntries("n", 2*impl.MaxEntries+20) {
		slots = append(slots, impl.Slot{Type: e.Type, Key: e.Key})
	}
	return slots
}

// randomEntries takes some of the slots in their order, with one of the ids for each.
func randomEntries(random *rand.Rand, slots []impl.Slot, count int, ids ...string) []impl.Entry {
	places := random.Perm(len(slots))[:min(count, len(slots))]
	slices.Sort(places)
	var entries []impl.Entry
	for _, place := range places {
		entries = append(entries, entry(slots[place].Type, slots[place].Key, pick(random, ids...)))
	}
	return entries
}

func randomState(random *rand.Rand, slots []impl.Slot) []impl.Entry {
	count := min(impl.MaxEntries, pick(random, 0, 1, 3, 8, len(slots)/2, len(slots)))
	return randomEntries(random, slots, count, "1", "2", "3")
}

func randomChanges(random *rand.Rand, slots []impl.Slot) []impl.Entry {
	count := min(2*impl.MaxEntries, pick(random, 0, 1, 3, 8, len(slots)/2, len(slots)))
	return randomEntries(random, slots, count, "1", "2", pick(random, "", "3"))
}

// spoiledEntries does one thing to a list of entries that may leave it no state or no changes.
func spoiledEntries(random *rand.Rand, entries []impl.Entry) []impl.Entry {
	out := slices.Clone(entries)
	if len(out) == 0 {
		return out
	}
	a, b := random.Intn(len(out)), random.Intn(len(out))
	switch random.Intn(5) {
	case 0:
		out[a], out[b] = out[b], out[a]
	case 1:
		out[a].Id = ""
	case 2:
		out = slices.Insert(out, a, out[b])
	case 3:
		out[a].Type, out[a].Key = out[b].Type, out[b].Key
	case 4:
		out[a].Key += "z"
	}
	return out
}
