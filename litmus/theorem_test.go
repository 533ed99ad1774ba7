package litmus_test

import (
	"math/rand"
	"slices"
	"sync"
	"testing"

	"headstock/api"
	"headstock/litmus"
)

// holdAgainst holds what Plays and Axioms tell of a program against the words, and against each other.
func holdAgainst(t *testing.T, l []api.Event) [][]int {
	t.Helper()
	plays, axioms := litmus.Plays(l), litmus.Axioms(l)
	if want := wantPlays(l); !areSame(plays, want) {
		t.Fatalf("Plays(%s): %v, not %v", text(l), plays, want)
	}
	if want := wantAxioms(l); !areSame(axioms, want) {
		t.Fatalf("Axioms(%s): %v, not %v", text(l), axioms, want)
	}
	if !areSame(plays, axioms) {
		t.Fatalf("%s: Plays: %v, Axioms: %v", text(l), plays, axioms)
	}
	return plays
}

// L3, L5: all short programs of what matters, by the words: nothing that was come to is kept there.
func TestShortPrograms(t *testing.T) {
	most := 0
	for n := range 5 {
		for l := range rows(few, n) {
			outcomes := holdAgainst(t, l)
			most = max(most, len(outcomes))
			for outcome := range rows([]int{0, 1, 2}, loads(l)) {
				isThere := slices.ContainsFunc(outcomes, func(x []int) bool { return slices.Equal(x, outcome) })
				isPlayed(t, l, outcome, isThere)
			}
		}
	}
	if most < 4 {
		t.Errorf("%d outcomes at the most", most)
	}
}

// L5: all programs of five events of what matters; in which places of the list two harts' events stand only turns the outcomes' numbers, so that those of hart 0 stand ahead here.
func TestSameOfFive(t *testing.T) {
	counts := map[int]int{}
	for n := range 6 {
		for first := range rows(few[:5], n) {
			for second := range rows(few[5:], 5-n) {
				l := slices.Concat(first, second)
				plays, axioms := litmus.Plays(l), litmus.Axioms(l)
				if !areSame(plays, axioms) {
					t.Fatalf("%s: Plays: %v, Axioms: %v", text(l), plays, axioms)
				}
				counts[len(plays)]++
			}
		}
	}
	for n := 1; n < 7; n++ {
		if counts[n] < 10 {
			t.Errorf("%v", counts)
		}
	}
}

// L3, L5: programs by chance, up to six events, by the words.
func TestByChance(t *testing.T) {
	c := &chance{rand.New(rand.NewSource(81))}
	counts := map[int]int{}
	for range 5000 {
		l := c.program(c.Intn(7))
		// Scripts of many stores are many.
		if len(l)-loads(l) > 3 {
			continue
		}
		counts[len(holdAgainst(t, l))]++
	}
	for _, n := range []int{1, 2, 3, 4} {
		if counts[n] < 10 {
			t.Errorf("%v", counts)
		}
	}
}

// L4, L5: programs by chance of six events: the same is told, each outcome is played by a script that is told, and no other one is.
func TestSameByChance(t *testing.T) {
	c := &chance{rand.New(rand.NewSource(82))}
	most := 0
	for range 2000 {
		l := c.program(6)
		plays, axioms := litmus.Plays(l), litmus.Axioms(l)
		if !areSame(plays, axioms) {
			t.Fatalf("%s: Plays: %v, Axioms: %v", text(l), plays, axioms)
		}
		for _, outcome := range plays {
			isPlayed(t, l, outcome, true)
		}
		for range 5 {
			outcome := make([]int, loads(l))
			for i := range outcome {
				outcome[i] = c.Intn(4) - 1
			}
			isThere := slices.ContainsFunc(plays, func(x []int) bool { return slices.Equal(x, outcome) })
			isPlayed(t, l, outcome, isThere)
		}
		most = max(most, len(plays))
	}
	if most < 10 {
		t.Errorf("%d outcomes at the most", most)
	}
}

// L2, L3: scripts by chance that may be: what they tell is an outcome, and the axioms let it be.
func TestPlayByChance(t *testing.T) {
	c := &chance{rand.New(rand.NewSource(83))}
	for range 2000 {
		l := c.program(c.Intn(7))
		script := c.script(l)
		got, ok := litmus.Play(l, script)
		if want, isEnded := wantPlay(l, script); !ok || !isEnded || !slices.Equal(got, want) {
			t.Fatalf("%s: %v: %v, %v, not %v", text(l), script, got, ok, want)
		}
		isIt := func(x []int) bool { return slices.Equal(x, got) }
		if !slices.ContainsFunc(litmus.Plays(l), isIt) || !slices.ContainsFunc(litmus.Axioms(l), isIt) {
			t.Fatalf("%s: %v is not told", text(l), got)
		}
	}
}

// L2: scripts by chance with one pick that is another one, too many or too few: some may be, some may not.
func TestPlayWrongByChance(t *testing.T) {
	c := &chance{rand.New(rand.NewSource(84))}
	counts := map[bool]int{}
	for range 5000 {
		l := c.program(1 + c.Intn(6))
		script := c.script(l)
		i := c.Intn(len(script))
		switch c.Intn(4) {
		case 0:
			script[i] = c.pick()
		case 1:
			script = slices.Delete(script, i, i+1)
		case 2:
			script = slices.Insert(script, i, c.pick())
		default:
			k := c.Intn(len(script))
			script[i], script[k] = script[k], script[i]
		}
		got, ok := litmus.Play(l, script)
		if want, isEnded := wantPlay(l, script); ok != isEnded || !slices.Equal(got, want) {
			t.Fatalf("%s: %v: %v, %v, not %v, %v", text(l), script, got, ok, want, isEnded)
		}
		counts[ok]++
	}
	if counts[true] < 500 || counts[false] < 500 {
		t.Errorf("%v", counts)
	}
}

// L2: all scripts of up to five picks, of programs that have all kinds of events.
func TestAllScripts(t *testing.T) {
	picks := []api.Pick{next(0), next(1), next(2), drain(0, 0), drain(0, 1), drain(1, 0), drain(0, -1), {Hart: 1, Which: 1}}
	for _, l := range [][]api.Event{
		nil, {load(0, 0)}, {store(0, 0, 1), fence(0)}, {store(0, 0, 1), load(1, 0)}, {store(0, 0, 1), store(0, 1, 2), load(1, 1)}, {store(0, 0, 1), store(0, 0, 2), load(1, 0)},
		{store(1, 2, 3), load(1, 2), fence(1)}, {store(0, 0, 1), load(0, 0), store(1, 0, 2), load(1, 0)},
	} {
		ended := 0
		for n := range 6 {
			for script := range rows(picks, n) {
				got, ok := litmus.Play(l, script)
				if want, isEnded := wantPlay(l, script); ok != isEnded || !slices.Equal(got, want) {
					t.Fatalf("%s: %v: %v, %v, not %v, %v", text(l), script, got, ok, want, isEnded)
				}
				if ok {
					ended++
				}
			}
		}
		if ended == 0 {
			t.Errorf("%s: no script", text(l))
		}
	}
}

// L3: programs of many states end, too.
func TestManyStates(t *testing.T) {
	stores := func(at ...int) []api.Event {
		var l []api.Event
		for i, at := range at {
			l = append(l, store(i%4, at, i+1))
		}
		return l
	}
	for _, l := range [][]api.Event{stores(0, 1, 2, 3, 0, 1), stores(0, 0, 0, 0, 0, 0), stores(0, 1, 0, 1, 0, 1), slices.Repeat(stores(3), 6)} {
		if plays, axioms := litmus.Plays(l), litmus.Axioms(l); !areSame(plays, [][]int{{}}) || !areSame(axioms, [][]int{{}}) {
			t.Errorf("%s: %v, %v", text(l), plays, axioms)
		}
		isPlayed(t, l, nil, true)
		isPlayed(t, l, []int{0}, false)
	}
	for hart := range 4 {
		l := append(stores(0, 0, 0), load(hart, 0), load(3, 0), load(0, 0))
		if plays, axioms := litmus.Plays(l), litmus.Axioms(l); !areSame(plays, axioms) || len(plays) < 10 {
			t.Errorf("%s: %v, %v", text(l), plays, axioms)
		}
	}
}

// L3, L5: by another numbering of harts and words the same is told.
func TestNumbering(t *testing.T) {
	c := &chance{rand.New(rand.NewSource(85))}
	for range 500 {
		l := c.program(c.Intn(7))
		harts, words := c.Perm(4), c.Perm(4)
		other := slices.Clone(l)
		for i, e := range l {
			other[i].Hart = harts[e.Hart]
			if e.Kind != api.EventFence {
				other[i].At = words[e.At]
			}
		}
		if a, b := litmus.Plays(l), litmus.Plays(other); !areSame(a, b) {
			t.Fatalf("%s: %v; %s: %v", text(l), a, text(other), b)
		}
		if a, b := litmus.Axioms(l), litmus.Axioms(other); !areSame(a, b) {
			t.Fatalf("%s: %v; %s: %v", text(l), a, text(other), b)
		}
	}
}

// R4: what is told hangs on the arguments alone, whatever was asked ahead, and at the same time.
func TestSameAgain(t *testing.T) {
	type answer struct {
		l             []api.Event
		plays, axioms [][]int
		scripts       [][]api.Pick
	}
	answered := func(l []api.Event) answer {
		a := answer{l: l, plays: litmus.Plays(l), axioms: litmus.Axioms(l)}
		for _, outcome := range a.plays {
			script, _ := litmus.Script(l, outcome)
			a.scripts = append(a.scripts, script)
		}
		return a
	}
	c := &chance{rand.New(rand.NewSource(86))}
	var all []answer
	for range 60 {
		all = append(all, answered(c.program(c.Intn(7))))
	}
	var group sync.WaitGroup
	for range 4 {
		group.Go(func() {
			for _, want := range slices.Backward(all) {
				got := answered(want.l)
				if !areSame(got.plays, want.plays) || !areSame(got.axioms, want.axioms) || !slices.EqualFunc(got.scripts, want.scripts, slices.Equal) {
					t.Errorf("%s: %v, not %v", text(want.l), got, want)
				}
			}
		})
	}
	group.Wait()
}

// R3: what is handed in is not written into, nor is what stands behind its length, which is not read either.
func TestNotWritten(t *testing.T) {
	c := &chance{rand.New(rand.NewSource(87))}
	for range 300 {
		l := c.program(c.Intn(7))
		script := c.script(l)
		outcome, _ := wantPlay(l, script)
		roomyList := append(slices.Clone(l), load(0, 0), fence(9), store(9, 9, 9))
		roomyScript := append(slices.Clone(script), drain(0, 0), next(9))
		roomyOutcome := append(slices.Clone(outcome), 7, 8)
		wantList, wantScript, wantOutcome := slices.Clone(roomyList), slices.Clone(roomyScript), slices.Clone(roomyOutcome)
		handed := roomyList[:len(l)]
		got, ok := litmus.Play(handed, roomyScript[:len(script)])
		if !ok || !slices.Equal(got, outcome) || !litmus.Right(handed) {
			t.Fatalf("%s: %v: %v, %v", text(l), script, got, ok)
		}
		if !areSame(litmus.Plays(handed), litmus.Plays(l)) || !areSame(litmus.Axioms(handed), litmus.Plays(l)) {
			t.Fatalf("%s: not the same", text(l))
		}
		isPlayed(t, handed, roomyOutcome[:len(outcome)], true)
		if !slices.Equal(roomyList, wantList) || !slices.Equal(roomyScript, wantScript) || !slices.Equal(roomyOutcome, wantOutcome) {
			t.Fatalf("%s; %v; %v", text(roomyList), roomyScript, roomyOutcome)
		}
	}
}

// R3: what comes out is new memory, all lists within it, and their spare room too.
func TestNewMemory(t *testing.T) {
	l := []api.Event{store(0, 0, 1), load(0, 1), load(0, 0), store(1, 1, 2), load(1, 0), load(1, 1)}
	for name, call := range map[string]func([]api.Event) [][]int{"Plays": litmus.Plays, "Axioms": litmus.Axioms} {
		first, second, want := call(l), call(l), wantPlays(l)
		for i := range first {
			for k := range first[i][:cap(first[i])] {
				first[i][:cap(first[i])][k] = 99
			}
			if !areSame(first[i+1:], want[i+1:]) {
				t.Errorf("%s: %d is changed by what is ahead of it: %v", name, i, first)
			}
		}
		for i := range first[:cap(first)] {
			first[:cap(first)][i] = []int{98}
		}
		if !areSame(second, want) || !areSame(call(l), want) {
			t.Errorf("%s: %v, %v", name, second, call(l))
		}
		for i := range second {
			last := append(second[i], 97)
			if !areSame(second, want) || last[len(last)-1] != 97 {
				t.Errorf("%s: what is put behind %d is not its own: %v", name, i, second)
			}
		}
	}
	outcome := []int{0, 1, 0, 2}
	script, _ := litmus.Script(l, outcome)
	want, told := slices.Clone(script), []int(nil)
	again, _ := litmus.Script(l, outcome)
	for i := range script[:cap(script)] {
		script[:cap(script)][i] = drain(9, 9)
	}
	told, _ = litmus.Play(l, want)
	for i := range told[:cap(told)] {
		told[:cap(told)][i] = 99
	}
	if third, _ := litmus.Script(l, outcome); !slices.Equal(again, want) || !slices.Equal(third, want) {
		t.Errorf("%v, %v, not %v", again, third, want)
	}
	if got, ok := litmus.Play(l, want); !ok || !slices.Equal(got, outcome) {
		t.Errorf("%v, %v", got, ok)
	}
}

// R1: no call panics, whatever it is given, and each ends.
func TestNoneFails(t *testing.T) {
	edges := append([]int{0, 1, 2, 3, 6}, noPlaces...)
	var all [][]api.Event
	for _, n := range edges {
		for _, e := range []api.Event{{Hart: n, Kind: 1}, {Kind: n}, {Kind: 1, At: n}, {Kind: 2, At: n}, {Kind: 2, N: n}, {Hart: n, Kind: n, At: n, N: n}} {
			all = append(all, []api.Event{e}, []api.Event{store(0, 0, 1), e, load(1, 0)}, slices.Repeat([]api.Event{e}, 7), slices.Repeat([]api.Event{e}, 70))
		}
	}
	for _, l := range append(all, nil) {
		if litmus.Right(l) != wantRight(l) || len(litmus.Plays(l)) > 0 != wantRight(l) || len(litmus.Axioms(l)) > 0 != wantRight(l) {
			t.Errorf("%v: %v, %v, %v", l, litmus.Right(l), litmus.Plays(l), litmus.Axioms(l))
		}
		for _, i := range edges {
			litmus.Script(l, []int{i})
			for _, k := range edges {
				script := []api.Pick{next(i), drain(i, k), {Hart: k, Which: i}}
				for n := range script {
					got, ok := litmus.Play(l, script[:n+1])
					if want, isEnded := wantPlay(l, script[:n+1]); ok != isEnded || !slices.Equal(got, want) {
						t.Errorf("%v: %v: %v, %v", l, script[:n+1], got, ok)
					}
				}
			}
		}
	}
}
