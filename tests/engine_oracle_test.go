package tests

import (
	"regexp"
	"slices"
	"strings"

	"loop.example/s01366/impl"
)

// What the document says of the engine, told a second time with nothing kept from one question to the next: the random tests hold the program against it.

// stateBefore is made of the states after all events of a valid room, for one that is to come next.
func stateBefore(r impl.Room, after [][]impl.Entry, e impl.Event) []impl.Entry {
	var states [][]impl.Entry
	for _, id := range e.Prev {
		states = append(states, after[slices.Index(idsOf(r), id)])
	}
	s, _ := wantedResolve(r, states)
	return s
}

func stateBehind(r impl.Room, before []impl.Entry, e impl.Event) []impl.Entry {
	if e.IsState && wantedVerdict(r, before, e) == 0 {
		return withChange(before, entryFor(e))
	}
	return before
}

// statesAround are the states before and after each event of a valid room, each made of the events up to it alone.
func statesAround(r impl.Room) ([][]impl.Entry, [][]impl.Entry) {
	var before, after [][]impl.Entry
	for i, e := range r.Events {
		room := impl.Room{Events: r.Events[:i]}
		s := stateBefore(room, after, e)
		before, after = append(before, s), append(after, stateBehind(room, s, e))
	}
	return before, after
}

func wantedBatch(r impl.Room, id string) ([]impl.Entry, []impl.Entry, int) {
	if !wantedRoomOk(r) {
		return nil, nil, 1
	}
	place := slices.Index(idsOf(r), id)
	if place < 0 {
		return nil, nil, 2
	}
	before, after := statesAround(r)
	return before[place], after[place], 0
}

func wantedBuild(events []impl.Event) (impl.Engine, []int) {
	var g impl.Engine
	var codes []int
	for _, e := range events {
		code := wantedInsert(g.Room.Events, e)
		codes = append(codes, code)
		if code == 0 {
			g.Room.Events = append(g.Room.Events, e)
		}
	}
	g.Cover = wantedCover(g.Room)
	before, after := statesAround(g.Room)
	for i, e := range g.Room.Events {
		near := -1
		if len(e.Prev) > 0 {
			near = g.After[slices.Index(idsOf(g.Room), e.Prev[0])]
		}
		g.Store, near = wantedSave(g.Store, before[i], near)
		g.Before = append(g.Before, near)
		g.Store, near = wantedSave(g.Store, after[i], near)
		g.After = append(g.After, near)
	}
	return g, codes
}

var orderForm = regexp.MustCompile(`(?s)^(?:(add) (.*)|(before|after) ([^ ,]+)|(chain)((?: [^ ,]+)+)|(diff)((?: [^ ,]+(?:,[^ ,]+)*)*)|(tips))$`)

// wantedForm gives the name of a line and what stands behind it; the name is empty when the line is none of the document's.
func wantedForm(line string) (string, string) {
	m := orderForm.FindStringSubmatch(line)
	for i := 1; i < len(m); i++ {
		if m[i] != "" && i%2 == 1 {
			return m[i], strings.Join(m[i+1:], "")
		}
	}
	return "", ""
}

func wantedRun(script string) ([]impl.Answer, int, int) {
	if len(script) > 20000 {
		return nil, 1, 0
	}
	var answers []impl.Answer
	var room impl.Room
	for i, line := range strings.Split(script, "\n") {
		if line == "" {
			continue
		}
		name, rest := wantedForm(line)
		if name == "" {
			return nil, 2, i + 1
		}
		var a impl.Answer
		if name == "add" {
			room, a.Code = wantedAdd(room, rest)
		} else {
			a = wantedAnswer(room, name, rest)
		}
		answers = append(answers, a)
	}
	return answers, 0, 0
}

func wantedAdd(r impl.Room, text string) (impl.Room, int) {
	e, code := wantedParse(text)
	if code != 0 {
		return r, 20 + code
	}
	if code := wantedInsert(r.Events, e); code != 0 {
		return r, code
	}
	return impl.Room{Events: append(slices.Clone(r.Events), e)}, 0
}

// wordsIn cuts at blanks alone: all other bytes may stand in an id.
func wordsIn(text string) []string {
	return strings.FieldsFunc(text, func(r rune) bool { return r == ' ' })
}

func wantedAnswer(r impl.Room, name, rest string) impl.Answer {
	switch name {
	case "before":
		before, _, code := wantedBatch(r, rest)
		return impl.Answer{Code: code, State: before}
	case "after":
		_, after, code := wantedBatch(r, rest)
		return impl.Answer{Code: code, State: after}
	case "chain":
		if code := wantedChainCode(r, wordsIn(rest)); code != 0 {
			return impl.Answer{Code: code}
		}
		return impl.Answer{Ids: sortedKeys(wantedChain(r, wordsIn(rest)))}
	case "diff":
		var sets [][]string
		for _, word := range wordsIn(rest) {
			sets = append(sets, strings.Split(word, ","))
		}
		if code := wantedDiffCode(r, sets); code != 0 {
			return impl.Answer{Code: code}
		}
		return impl.Answer{Ids: wantedDiff(r, sets)}
	}
	return impl.Answer{Ids: wantedTips(r)}
}
