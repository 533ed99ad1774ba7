package label_test

import (
	"math/rand"
	"slices"
	"strconv"
	"testing"

	"headstock/api"
	"headstock/code"
	"headstock/label"
)

// targets are, of each item that leads to a label, the label's place among the items; of others 0.
func targets(l []api.Item) []int {
	at := map[string]int{}
	for i, x := range l {
		if x.Kind == api.ItemLabel {
			at[x.Name] = i
		}
	}
	all := make([]int, len(l))
	for i, x := range l {
		if x.Kind == api.ItemTo {
			all[i] = at[x.Name]
		}
	}
	return all
}

// laid is what the chapter says of right items, round by round: their places, which are long, and how many rounds it took.
func laid(l []api.Item) ([]int, []bool, int) {
	long := make([]bool, len(l))
	to := targets(l)
	for rounds := 0; ; rounds++ {
		places := []int{0}
		for i, x := range l {
			words := 1
			switch {
			case x.Kind == api.ItemLabel:
				words = 0
			case x.Kind == api.ItemNops:
				words = x.N
			case x.Kind == api.ItemNum && (x.N < -2048 || x.N > 2047) || long[i]:
				words = 2
			}
			places = append(places, places[i]+4*words)
		}
		var far []int
		for i, x := range l {
			by := places[to[i]] - places[i]
			if x.Kind == api.ItemTo && x.In.Op != api.InJal && !long[i] && (by < -4096 || by > 4094) {
				far = append(far, i)
			}
		}
		if len(far) == 0 {
			return places, long, rounds
		}
		for _, i := range far {
			long[i] = true
		}
	}
}

// follow is where the words at an item's place lead to, whether its branch is taken or not.
func follow(t *testing.T, words []int, place int, taken bool) int {
	t.Helper()
	in, err := code.Decode(words[place/4])
	if err != api.OK {
		t.Fatalf("%#x", words[place/4])
	}
	if in.Op == api.InJal || taken {
		return place + in.N
	}
	return place + 4
}

// same holds what the calls tell of right items against the chapter, and tells how many rounds it took.
func same(t *testing.T, l []api.Item) int {
	t.Helper()
	want, long, rounds := laid(l)
	to := targets(l)
	places, err := label.Places(l)
	if err != api.OK || !slices.Equal(places, want) {
		t.Fatal("places", err)
	}
	words, err := label.Assemble(l)
	if err != api.OK || len(words) != want[len(l)]/4 {
		t.Fatal("words", len(words), err)
	}
	for i, x := range l {
		at := words[want[i]/4 : want[i+1]/4]
		switch x.Kind {
		case api.ItemLabel:
			// Each look lays all items anew: some are enough.
			if i%41 > 0 {
				continue
			}
			if got := label.Find(l, x.Name); got != want[i] {
				t.Fatal("find", x.Name, got)
			}
		case api.ItemIns:
			if in, err := code.Decode(at[0]); in != x.In || err != api.OK {
				t.Fatal("instruction", in, x.In)
			}
		case api.ItemNum:
			var all []int
			for _, in := range label.Number(x.In.D, x.N) {
				word, _ := code.Encode(in)
				all = append(all, word)
			}
			if !slices.Equal(at, all) {
				t.Fatal("number", x)
			}
		case api.ItemNops:
			if slices.ContainsFunc(at, func(w int) bool { return w != 0x13 }) {
				t.Fatal("nops", i)
			}
		case api.ItemTo:
			comes(t, x.In, words, want[i], want[to[i]], long[i])
		}
	}
	return rounds
}

// comes is whether the words at a place do what the item's branch does: lead to its label, or go on behind it.
func comes(t *testing.T, in api.Instr, words []int, place, goal int, long bool) {
	t.Helper()
	first, _ := code.Decode(words[place/4])
	switch {
	case in.Op == api.InJal || !long:
		in.N = goal - place
		if first != in || follow(t, words, place, true) != goal {
			t.Fatal("short", first, in)
		}
	default:
		// Passed over if the branch is not taken: else by the jump behind it.
		jump, _ := code.Decode(words[place/4+1])
		if first.A != in.A || first.B != in.B || first.Op != (in.Op-api.InBeq)^1+api.InBeq || jump.Op != api.InJal || jump.D != 0 {
			t.Fatal("long", first, jump, in)
		}
		if follow(t, words, place, true) != place+8 || follow(t, words, follow(t, words, place, false), false) != goal {
			t.Fatal("long", first, jump, goal)
		}
	}
}

// anyItem is an item that may be, with no label in it.
func anyItem(rest *rand.Rand) api.Item {
	switch rest.Intn(4) {
	case 0:
		return ins(api.Instr{Op: api.InAdd, D: rest.Intn(32), A: rest.Intn(32), B: rest.Intn(32)})
	case 1:
		return num(1+rest.Intn(31), rest.Intn(1<<32)-1<<31)
	case 2:
		return num(1+rest.Intn(31), rest.Intn(6000)-3000)
	}
	return api.Item{Kind: api.ItemNops, N: rest.Intn(40)}
}

// anyItems are so many, with labels between, to which branches near and far lead.
func anyItems(rest *rand.Rand, many int) []api.Item {
	var l []api.Item
	labels := 0
	for range many {
		if rest.Intn(4) == 0 {
			l = append(l, mark(strconv.Itoa(labels)))
			labels++
		}
		l = append(l, anyItem(rest))
		if rest.Intn(2) == 0 {
			l = append(l, api.Item{Kind: api.ItemTo, In: api.Instr{Op: branches[rest.Intn(len(branches))], A: rest.Intn(32), B: rest.Intn(32)}})
		} else if rest.Intn(10) == 0 {
			l = append(l, api.Item{Kind: api.ItemTo, In: api.Instr{Op: api.InJal, D: rest.Intn(32)}})
		}
	}
	l = append(l, mark("end"))
	aim(rest, l)
	return l
}

// aim gives each branch a label that lies about as far as it reaches, or anywhere.
func aim(rest *rand.Rand, l []api.Item) {
	var marks []int
	for i, x := range l {
		if x.Kind == api.ItemLabel {
			marks = append(marks, i)
		}
		if x.Kind == api.ItemTo {
			l[i].Name = "end"
		}
	}
	places, _, _ := laid(l)
	for i, x := range l {
		if x.Kind != api.ItemTo {
			continue
		}
		goal := marks[rest.Intn(len(marks))]
		by := 3400 + rest.Intn(800)
		if rest.Intn(2) == 0 {
			by = -by
		}
		if rest.Intn(8) > 0 {
			near := func(a, b int) int { return abs(places[a]-places[i]-by) - abs(places[b]-places[i]-by) }
			goal = slices.MinFunc(marks, near)
		}
		l[i].Name = l[goal].Name
	}
}

func abs(n int) int { return max(n, -n) }

// B2 and B5: branches that are about as far from their labels as they reach, so that one that becomes long makes others long.
func TestAnyItems(t *testing.T) {
	rest := rand.New(rand.NewSource(4))
	for range 60 {
		same(t, anyItems(rest, 50+rest.Intn(700)))
	}
}

// chain is branches that become long one by one, each by the one that became so ahead of it: in each of the groups so many and one more, the last of which waits for the group behind it. room is what a short one reaches beyond 1023 words.
func chain(groups, many, room int) []api.Item {
	var l []api.Item
	for g := range groups {
		name := func(g, j int) string { return strconv.Itoa(g) + "." + strconv.Itoa(j) }
		for j := many; j >= 0; j-- {
			l = append(l, beq(1, 2, name(g, j)))
			if j == many && g > 0 {
				l = append(l, mark(name(g-1, 0)))
			}
		}
		l = append(l, nops(1023-2*many+room)...)
		for j := many; j > 0; j-- {
			l = append(l, mark(name(g, j)))
			if j > 1 || g == groups-1 {
				l = append(l, nops(2)...)
			}
		}
	}
	return append(l, mark(strconv.Itoa(groups-1)+".0"))
}

// chainBack is the same the other way round: as a branch's own word is not between it and what is ahead of it, it reaches two more.
func chainBack(groups, many int) []api.Item {
	l := chain(groups, many, 2)
	slices.Reverse(l)
	return l
}

// B2 and B5: one branch a round, by as many rounds as there are branches.
func TestChains(t *testing.T) {
	for _, x := range [][2]int{{1, 0}, {1, 1}, {1, 511}, {2, 5}, {3, 100}, {20, 10}} {
		for _, l := range [][]api.Item{chain(x[0], x[1], 0), chainBack(x[0], x[1])} {
			if rounds := same(t, l); rounds != x[0]*(x[1]+1) {
				t.Error(x, rounds)
			}
			// With one word less the first one reaches, and so do all.
			i := slices.IndexFunc(l, func(y api.Item) bool { return y.Kind == api.ItemNops })
			if l[len(l)-1].Kind == api.ItemLabel {
				i = len(l) - 2
			}
			l[i].N--
			if rounds := same(t, l); rounds != 0 {
				t.Error(x, "one less", rounds)
			}
		}
	}
}

// The same with as much code as there may be: it ends soon, however many rounds the chapter's words take.
func TestLongChain(t *testing.T) {
	for _, l := range [][]api.Item{chain(26, 500, 0), chainBack(26, 500)} {
		if len(l) > api.MaxItems {
			t.Fatal(len(l))
		}
		places, err := label.Places(l)
		if err != api.OK {
			t.Fatal(err)
		}
		for i, x := range l {
			if x.Kind == api.ItemTo && places[i+1]-places[i] != 8 {
				t.Fatal("short", i)
			}
		}
	}
}

// A span that is full of branches: as many as a short one reaches over, in both directions, and one more.
func TestFullSpans(t *testing.T) {
	for n := 1015; n <= 1030; n++ {
		full := slices.Repeat(one(beq(3, 4, "near")), n)
		same(t, join(one(beq(1, 2, "far")), full[:n/2], one(mark("near")), full[n/2:], one(mark("far"))))
		same(t, join(one(mark("far")), full[:n/2], one(mark("near")), full[n/2:], one(beq(1, 2, "far"))))
		// The branch that has no room for one word more has all others between it and the one that becomes long.
		if n < 1018 || n > 1024 {
			continue
		}
		last := one(beq(5, 6, "beyond"))
		same(t, join(one(beq(1, 2, "far")), full[:n-1], one(mark("near")), last, one(mark("far")), nops(1100), one(mark("beyond"))))
		same(t, join(one(mark("beyond")), nops(1100), one(mark("far")), last, one(mark("near")), full[:n-1], one(beq(1, 2, "far"))))
	}
}

// B5: a branch with no room for one word more is long by the long one that it spans; with room for one it is not.
func TestRoomForOne(t *testing.T) {
	for between, words := range map[int][]int{1021: {2, 2}, 1020: {1, 2}} {
		ahead := join(one(beq(1, 2, "z"), beq(1, 2, "far")), nops(between), one(mark("z")), nops(1023-between), one(mark("far")))
		same(t, ahead)
		places, _ := label.Places(ahead)
		if places[1] != 4*words[0] || places[2] != 4*words[0]+4*words[1] {
			t.Error("ahead", between, places)
		}
		back := join(one(mark("far")), nops(1024-between), one(mark("z")), nops(between+2), one(beq(1, 2, "far"), beq(1, 2, "z")))
		same(t, back)
		places, _ = label.Places(back)
		if places[5]-places[4] != 4*words[1] || places[6]-places[5] != 4*words[0] {
			t.Error("back", between, places)
		}
	}
}
