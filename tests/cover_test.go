package tests

import (
	"math"
	"math/rand"
	"reflect"
	"slices"
	"strconv"
	"testing"

	"loop.example/s01366/impl"
)

func at(chain, seq int) impl.Spot {
	return impl.Spot{Chain: chain, Seq: seq}
}

func sameCover(a, b impl.Cover) bool {
	return slices.Equal(a.Spots, b.Spots) && slices.EqualFunc(a.Reach, b.Reach, slices.Equal[[]int])
}

// checkCover holds MakeCover's answer and its memory against what is wanted.
func checkCover(t *testing.T, name string, r impl.Room, want impl.Cover, wantOk bool) {
	t.Helper()
	room := roomyRoom(r)
	checkKept(t, name, room, func() {
		got, ok := impl.MakeCover(room)
		if ok != wantOk || !sameCover(got, want) {
			t.Errorf("%s: MakeCover is %v, %v; not %v", name, got, ok, want)
		}
		if !apart(got.Reach, func(i int) int { return -1 - i }) {
			t.Errorf("%s: two lists of the cover share memory", name)
		}
	})
}

type spotCase struct {
	line  string
	spot  impl.Spot
	reach []int
}

func checkSpots(t *testing.T, name string, cases []spotCase) {
	t.Helper()
	var room impl.Room
	var want impl.Cover
	for _, c := range cases {
		room.Events = append(room.Events, eventOf(c.line))
		want.Spots, want.Reach = append(want.Spots, c.spot), append(want.Reach, c.reach)
		checkCover(t, name+" with "+strconv.Itoa(len(room.Events)), room, want, true)
	}
}

func TestCoverOfForks(t *testing.T) {
	checkSpots(t, "forked", []spotCase{
		{"$c @a create = 1 - - -", at(0, 1), []int{1}},
		{"$a @a member =@a 2 $c $c join", at(0, 2), []int{2}},
		{"$p @a power = 3 $a $c,$a @a:100", at(0, 3), []int{3}},
		{"$b2 @a topic = 4 $p $p,$a one", at(0, 4), []int{4}},
		{"$x @b msg - 4 $p $c -", at(1, 1), []int{1, 1}},
		{"$b1 @a topic = 5 $b2 $b2 two", at(0, 5), []int{5, 0}},
		{"$j @a msg - 6 $b1,$x $p,$x -", at(1, 2), []int{3, 2}},
		{"$s @b msg - 7 $p $c -", at(2, 1), []int{1, 0, 1}},
	})
}

// TestChainOfAnEvent has events that could go on several chains: the order of Auth says which.
func TestChainOfAnEvent(t *testing.T) {
	ends := []spotCase{
		{"$c @a create = 1 - - -", at(0, 1), []int{1}},
		{"$1 @a msg - 1 $c $c -", at(0, 2), []int{2}},
		{"$2 @a msg - 1 $c $c -", at(1, 1), []int{1, 1}},
		{"$3 @a msg - 1 $c $c -", at(2, 1), []int{1, 0, 1}},
	}
	cases := []struct {
		name string
		more []spotCase
	}{
		{"the least chain", []spotCase{{"$n @a msg - 1 $c $1,$2,$3 -", at(0, 3), []int{3, 1, 1}}}},
		{"the first in auth, not the least", []spotCase{{"$n @a msg - 1 $c $3,$1,$2 -", at(2, 2), []int{2, 1, 2}}}},
		{"the first in auth, not the longest", []spotCase{{"$n @a msg - 1 $c $2,$1 -", at(1, 2), []int{2, 2, 0}}}},
		{"the first is no end", []spotCase{{"$n @a msg - 1 $c $c,$2,$1 -", at(1, 2), []int{2, 2, 0}}}},
		{"no end, though its chain has one", []spotCase{{"$n @a msg - 1 $1 $c -", at(3, 1), []int{1, 0, 0, 1}}}},
		{"an end no more", []spotCase{
			{"$4 @a msg - 1 $c $2 -", at(1, 2), []int{1, 2, 0}},
			{"$5 @a msg - 1 $c $2 -", at(3, 1), []int{1, 1, 0, 1}},
			{"$6 @a msg - 1 $c $2,$3 -", at(2, 2), []int{1, 1, 2, 0}},
			{"$7 @a msg - 1 $c $2,$5,$4 -", at(3, 2), []int{1, 2, 0, 2}},
			{"$8 @a msg - 1 $c $7,$6 -", at(3, 3), []int{1, 2, 2, 3}},
			{"$9 @a msg - 1 $c $7,$6 -", at(2, 3), []int{1, 2, 3, 2}},
			{"$10 @a msg - 1 $c $7,$6 -", at(4, 1), []int{1, 2, 2, 2, 1}},
		}},
		{"prev says nothing", []spotCase{{"$n @a msg - 1 $3,$2 $1 -", at(0, 3), []int{3, 0, 0}}}},
	}
	for _, c := range cases {
		checkSpots(t, c.name, append(slices.Clone(ends), c.more...))
	}
}

func TestCoverOfBadRooms(t *testing.T) {
	checkCover(t, "empty room", impl.Room{}, impl.Cover{}, true)
	for name, room := range badRooms() {
		checkCover(t, name, room, impl.Cover{}, false)
	}
}

func positions(r impl.Room, sets [][]string) [][]int {
	var out [][]int
	for _, ids := range sets {
		var set []int
		for _, id := range ids {
			set = append(set, slices.Index(idsOf(r), id))
		}
		out = append(out, set)
	}
	return out
}

// checkPromise5 holds a valid room's cover against full chains at every pair, and CoverDiff against AuthDiff.
func checkPromise5(t *testing.T, random *rand.Rand, room impl.Room) {
	t.Helper()
	c, ok := impl.MakeCover(room)
	if !ok || len(c.Spots) != len(room.Events) || len(c.Reach) != len(room.Events) {
		t.Fatalf("the cover of a valid room: %v", ok)
	}
	for a, e := range room.Events {
		full := wantedFull(room, []string{e.Id})
		for b, other := range room.Events {
			if got := impl.Reaches(c, a, b); got != full[other.Id] {
				t.Fatalf("%d reaches %d: %v", a, b, got)
			}
		}
	}
	for range 20 {
		sets := randomSets(random, room)
		var diff []string
		for _, p := range impl.CoverDiff(c, positions(room, sets)) {
			diff = append(diff, room.Events[p].Id)
		}
		slices.Sort(diff)
		want, code := impl.AuthDiff(room, sets)
		if code != 0 || !slices.Equal(diff, want) || !slices.Equal(diff, wantedDiff(room, sets)) {
			t.Fatalf("CoverDiff has %q; AuthDiff %q, %d", diff, want, code)
		}
	}
}

func TestRandomCovers(t *testing.T) {
	random := rand.New(rand.NewSource(9))
	for range 300 {
		room := randomRoom(random, 1+random.Intn(pick(random, 5, 20, 40)))
		checkCover(t, "random", room, wantedCover(room), true)
		checkPromise5(t, random, room)
		spoilt := spoiledRoom(random, room)
		if !wantedRoomOk(spoilt) {
			checkCover(t, "random, not valid", spoilt, impl.Cover{}, false)
		}
	}
	big := randomRoom(random, impl.MaxEvents)
	checkCover(t, "big", big, wantedCover(big), true)
	checkPromise5(t, random, big)
	line := lineRoom(impl.MaxEvents)
	checkCover(t, "line", line, wantedCover(line), true)
	checkPromise5(t, random, line)
}

// TestCoverOfFirstEvents holds promise 6 for every number of first events.
func TestCoverOfFirstEvents(t *testing.T) {
	random := rand.New(rand.NewSource(10))
	rooms := []impl.Room{forkedRoom(), lineRoom(40), randomRoom(random, impl.MaxEvents)}
	for range 60 {
		rooms = append(rooms, randomRoom(random, 1+random.Intn(40)))
	}
	for _, room := range rooms {
		whole, ok := impl.MakeCover(room)
		if !ok {
			t.Fatalf("no cover of a valid room")
		}
		for size := range len(room.Events) + 1 {
			part, ok := impl.MakeCover(impl.Room{Events: room.Events[:size]})
			if !ok || !sameCover(part, impl.Cover{Spots: whole.Spots[:size], Reach: whole.Reach[:size]}) {
				t.Fatalf("the cover of the first %d events is %v, %v", size, part, ok)
			}
		}
	}
}

// oddNumbers are positions, chains and seqs at the edges and beyond.
func oddNumbers() []int {
	return []int{math.MinInt, math.MinInt32, -2, -1, 0, 1, 2, 3, 4, 5, math.MaxInt32, math.MaxInt}
}

func TestReachesOfAnyMake(t *testing.T) {
	c := impl.Cover{
		Spots: []impl.Spot{at(0, 1), at(0, 2), at(1, 1), at(1, 0), at(0, -1), at(-1, 1), at(2, 1), at(math.MaxInt, 1), at(math.MinInt, 1), at(0, math.MinInt), at(0, math.MaxInt), at(1, 2)},
		Reach: [][]int{{1}, {2, 1}, nil, {-1, -1}, {0, 0, 0}, {math.MaxInt, math.MinInt, 1}},
	}
	wants := map[[2]int]bool{{0, 0}: true, {1, 0}: true, {1, 1}: true, {1, 2}: true, {5, 0}: true, {5, 1}: true, {5, 6}: true, {5, 10}: true}
	for _, a := range append(oddNumbers(), 6, 7) {
		for _, b := range append(oddNumbers(), 6, 7, 8, 9, 10, 11, 12, 13) {
			if got := impl.Reaches(c, a, b); got != wants[[2]int{a, b}] {
				t.Errorf("%d reaches %d: %v", a, b, got)
			}
			if impl.Reaches(impl.Cover{}, a, b) || impl.Reaches(impl.Cover{Spots: c.Spots}, a, b) || impl.Reaches(impl.Cover{Reach: c.Reach}, a, b) {
				t.Errorf("%d reaches %d where there is nothing", a, b)
			}
		}
	}
}

func checkCoverDiff(t *testing.T, name string, c impl.Cover, sets [][]int, want []int) {
	t.Helper()
	keptSpots, keptReach, keptSets := slices.Clone(c.Spots), rowsCopy(c.Reach), rowsCopy(sets)
	got := impl.CoverDiff(c, sets)
	if !slices.Equal(got, want) {
		t.Errorf("%s: CoverDiff of %v in %v is %v, not %v", name, sets, c, got, want)
	}
	apart([][]int{got}, func(int) int { return -77 })
	if !slices.Equal(keptSpots, c.Spots) || !reflect.DeepEqual(keptReach, rowsCopy(c.Reach)) || !reflect.DeepEqual(keptSets, rowsCopy(sets)) {
		t.Errorf("%s: an argument was written into", name)
	}
}

func rowsCopy(rows [][]int) [][]int {
	out := slices.Clone(rows)
	for i, row := range out {
		out[i] = upToCap(row)
	}
	return out
}

func TestCoverDiff(t *testing.T) {
	c, _ := impl.MakeCover(forkedRoom())
	cases := []struct {
		sets [][]int
		want []int
	}{
		{nil, nil},
		{[][]int{}, nil},
		{[][]int{{7}}, nil},
		{[][]int{{7}, {7}}, nil},
		{[][]int{{5}, {3}}, []int{5}},
		{[][]int{{5}, {6}}, []int{3, 4, 5, 6}},
		{[][]int{{6}, {5}, {5, 6}}, []int{3, 4, 5, 6}},
		{[][]int{{}, {5}}, []int{0, 1, 2, 3, 5}},
		{[][]int{nil, nil}, nil},
		{[][]int{{8}, {1}}, []int{0, 1}},
		{[][]int{{-1, 1}, {0, 99}}, []int{1}},
		{[][]int{{math.MinInt}, {math.MaxInt}}, nil},
		{[][]int{{7, 7, 7}, {4}}, []int{4, 7}},
	}
	for _, k := range cases {
		checkCoverDiff(t, "forked", c, k.sets, k.want)
	}
	many := slices.Repeat([][]int{{7}}, 5*impl.MaxSets)
	checkCoverDiff(t, "many sets", c, many, nil)
	checkCoverDiff(t, "many sets and one", c, append(many, []int{0}), []int{7})
	checkCoverDiff(t, "many elements", c, [][]int{slices.Repeat([]int{7}, 5*impl.MaxEvents), {0}}, []int{7})
	checkCoverDiff(t, "no cover", impl.Cover{}, [][]int{{0}, {1}}, nil)
	// A short row behind a long one, and a long one behind a short one.
	rows := impl.Cover{Spots: []impl.Spot{at(0, 1), at(2, 1), at(2, 3)}, Reach: [][]int{{1}, {0, 0, 2}, {0, 0, 3}, {-5, -5, -5, -5}}}
	checkCoverDiff(t, "rows of several lengths", rows, [][]int{{0, 1}, {3}}, []int{0, 1})
	checkCoverDiff(t, "rows of several lengths", rows, [][]int{{1, 0}, {3}}, []int{0, 1})
	checkCoverDiff(t, "rows of several lengths", rows, [][]int{{2, 3, 0}, {1, 3}}, []int{0, 2})
}

func randomCover(random *rand.Rand) impl.Cover {
	var c impl.Cover
	for range random.Intn(8) {
		chain := pick(random, 0, 0, 1, 1, 2, 3, pick(random, oddNumbers()...))
		c.Spots = append(c.Spots, impl.Spot{Chain: chain, Seq: pick(random, 1, 1, 2, 3, pick(random, oddNumbers()...))})
	}
	for range random.Intn(8) {
		var row []int
		for range random.Intn(5) {
			row = append(row, pick(random, 0, 1, 2, 3, pick(random, oddNumbers()...)))
		}
		c.Reach = append(c.Reach, row)
	}
	return c
}

func TestRandomCoversOfAnyMake(t *testing.T) {
	random := rand.New(rand.NewSource(11))
	reached, parted := 0, 0
	for range 5000 {
		c := randomCover(random)
		for _, a := range oddNumbers() {
			for _, b := range oddNumbers() {
				want := wantedReaches(c, a, b)
				if got := impl.Reaches(c, a, b); got != want {
					t.Fatalf("%d reaches %d in %v: %v", a, b, c, got)
				}
				if want {
					reached++
				}
			}
		}
		var sets [][]int
		for range random.Intn(4) {
			var set []int
			for range random.Intn(4) {
				set = append(set, pick(random, 0, 1, 2, 3, pick(random, oddNumbers()...)))
			}
			sets = append(sets, set)
		}
		want := wantedCoverDiff(c, sets)
		checkCoverDiff(t, "random", c, sets, want)
		parted += len(want)
	}
	if reached < 1000 || parted < 1000 {
		t.Errorf("too little was reached: %d, %d", reached, parted)
	}
}
