package tests

import (
	"slices"

	"loop.example/s01366/impl"
)

// What the document says of rooms, told a second time with sets of ids and nothing kept: the random tests hold the program against it.

func hasId(events []impl.Event, id string) bool {
	return slices.ContainsFunc(events, func(e impl.Event) bool { return e.Id == id })
}

func wantedInsert(events []impl.Event, e impl.Event) int {
	unknown := func(id string) bool { return !hasId(events, id) }
	if code := wantedCode(e); code > 0 {
		return code
	}
	if hasId(events, e.Id) {
		return 6
	}
	if slices.ContainsFunc(e.Prev, unknown) || slices.ContainsFunc(e.Auth, unknown) {
		return 7
	}
	if len(events) == 0 && e.Type != "create" {
		return 8
	}
	if len(events) != 0 && (e.Type == "create" || len(e.Prev) == 0 || len(e.Auth) == 0) {
		return 8
	}
	if len(events) >= 300 {
		return 9
	}
	return 0
}

func wantedRoomOk(r impl.Room) bool {
	for i, e := range r.Events {
		if wantedInsert(r.Events[:i], e) != 0 {
			return false
		}
	}
	return true
}

// wantedChain steps as long as a step finds something new.
func wantedChain(r impl.Room, ids []string) map[string]bool {
	chain := map[string]bool{}
	for size := -1; size < len(chain); {
		size = len(chain)
		for _, e := range r.Events {
			if !chain[e.Id] && !slices.Contains(ids, e.Id) {
				continue
			}
			for _, id := range e.Auth {
				chain[id] = true
			}
		}
	}
	return chain
}

func wantedFull(r impl.Room, ids []string) map[string]bool {
	full := wantedChain(r, ids)
	for _, id := range ids {
		full[id] = true
	}
	return full
}

func sortedKeys(set map[string]bool) []string {
	var keys []string
	for key, in := range set {
		if in {
			keys = append(keys, key)
		}
	}
	slices.Sort(keys)
	return keys
}

func wantedDiff(r impl.Room, sets [][]string) []string {
	some, all := map[string]bool{}, map[string]bool{}
	for _, e := range r.Events {
		all[e.Id] = true
	}
	for _, ids := range sets {
		full := wantedFull(r, ids)
		for _, e := range r.Events {
			some[e.Id] = some[e.Id] || full[e.Id]
			all[e.Id] = all[e.Id] && full[e.Id]
		}
	}
	for id := range some {
		some[id] = some[id] && !all[id]
	}
	return sortedKeys(some)
}

func wantedTips(r impl.Room) []string {
	tips := map[string]bool{}
	for _, e := range r.Events {
		tips[e.Id] = !slices.ContainsFunc(r.Events, func(o impl.Event) bool { return slices.Contains(o.Prev, e.Id) })
	}
	return sortedKeys(tips)
}

// wantedChainCode and wantedDiffCode are for any room, ids and sets.
func wantedChainCode(r impl.Room, ids []string) int {
	if !wantedRoomOk(r) {
		return 1
	}
	if !idsFit(r, ids) {
		return 2
	}
	return 0
}

func wantedDiffCode(r impl.Room, sets [][]string) int {
	if !wantedRoomOk(r) {
		return 1
	}
	if len(sets) > 20 {
		return 2
	}
	for _, ids := range sets {
		if !idsFit(r, ids) {
			return 3
		}
	}
	return 0
}

func idsFit(r impl.Room, ids []string) bool {
	return len(ids) <= 300 && !slices.ContainsFunc(ids, func(id string) bool { return !hasId(r.Events, id) })
}

// wantedCover finds each spot by looking at all the spots before it, and each reach by looking at the whole full chain.
func wantedCover(r impl.Room) impl.Cover {
	var c impl.Cover
	chains := 0
	for _, e := range r.Events {
		spot := impl.Spot{Chain: chains, Seq: 1}
		for _, id := range e.Auth {
			rest := c.Spots[slices.Index(idsOf(r), id)]
			if !slices.Contains(c.Spots, impl.Spot{Chain: rest.Chain, Seq: rest.Seq + 1}) {
				spot = impl.Spot{Chain: rest.Chain, Seq: rest.Seq + 1}
				break
			}
		}
		chains = max(chains, spot.Chain+1)
		c.Spots = append(c.Spots, spot)
		row := make([]int, chains)
		full := wantedFull(r, []string{e.Id})
		for k, s := range c.Spots {
			if full[r.Events[k].Id] {
				row[s.Chain] = max(row[s.Chain], s.Seq)
			}
		}
		c.Reach = append(c.Reach, row)
	}
	return c
}

// wantedReaches looks for the positions among those that there are, so that it asks no bound.
func wantedReaches(c impl.Cover, a, b int) bool {
	for i, row := range c.Reach {
		for k, spot := range c.Spots {
			for chain, seq := range row {
				if i == a && k == b && chain == spot.Chain && spot.Seq > 0 && spot.Seq <= seq {
					return true
				}
			}
		}
	}
	return false
}

func wantedCoverDiff(c impl.Cover, sets [][]int) []int {
	var diff []int
	for p := range c.Spots {
		reaches := func(a int) bool { return wantedReaches(c, a, p) }
		some := slices.ContainsFunc(sets, func(set []int) bool { return slices.ContainsFunc(set, reaches) })
		none := slices.ContainsFunc(sets, func(set []int) bool { return !slices.ContainsFunc(set, reaches) })
		if some && none {
			diff = append(diff, p)
		}
	}
	return diff
}
