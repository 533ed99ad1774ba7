package litmus_test

import (
	"slices"
	"testing"

	"headstock/api"
	"headstock/litmus"
)

// L1: how many events there may be.
func TestRightCount(t *testing.T) {
	for n := range 20 {
		for _, e := range []api.Event{load(0, 0), store(3, 3, -7), fence(2)} {
			if got := litmus.Right(slices.Repeat([]api.Event{e}, n)); got != (n <= 6) {
				t.Errorf("%d of %v: %v", n, e, got)
			}
		}
	}
	if !litmus.Right(nil) || !litmus.Right([]api.Event{}) {
		t.Error("none")
	}
	if litmus.Right(make([]api.Event, 100000)) || litmus.Right(slices.Repeat([]api.Event{fence(0)}, 100000)) {
		t.Error("many")
	}
}

// L1: each field by itself, at its edges, at each place of a list.
func TestRightFields(t *testing.T) {
	type row struct {
		e    api.Event
		want bool
	}
	var rows []row
	for kind := 1; kind <= 3; kind++ {
		e := api.Event{Hart: 3, Kind: kind}
		for i := range 4 {
			rows = append(rows, row{api.Event{Hart: i, Kind: kind}, true}, row{api.Event{Kind: kind, At: i}, kind < 3 || i == 0})
		}
		for _, i := range noPlaces {
			rows = append(rows, row{api.Event{Hart: i, Kind: kind}, false}, row{api.Event{Kind: kind, At: i}, false}, row{api.Event{Kind: i}, false})
		}
		for _, e.N = range someNumbers {
			rows = append(rows, row{e, kind == api.EventStore || e.N == 0})
		}
		for _, e.N = range noNumbers {
			rows = append(rows, row{e, false})
		}
	}
	rows = append(rows, row{api.Event{}, false})
	for _, x := range rows {
		for n := 1; n <= 6; n++ {
			for i := range n {
				l := slices.Repeat([]api.Event{load(1, 2)}, n)
				l[i] = x.e
				if got := litmus.Right(l); got != x.want || got != wantRight(l) {
					t.Errorf("%v, at %d of %d: %v", x.e, i, n, got)
				}
			}
		}
	}
}

// noPrograms are what is none: all calls are held to it.
func noPrograms() [][]api.Event {
	all := [][]api.Event{
		slices.Repeat([]api.Event{fence(0)}, 7), slices.Repeat([]api.Event{load(1, 0)}, 8), slices.Repeat([]api.Event{load(0, 0)}, 9), make([]api.Event, 1000),
		{store(0, 0, 1), {Kind: 1, N: 1}}, {{Kind: 1, N: -1}, store(0, 0, -1)}, {store(0, 0, 1), load(0, 4)}, {load(4, 0)}, {load(-1, 0)}, {load(0, -1)},
		{{Kind: 3, At: 1}}, {{Kind: 3, N: 1}}, {{Kind: 0}}, {{Kind: 4}}, {store(0, 0, 1<<31)}, {store(0, 0, -1<<31-1)}, {load(0, 0), {Kind: 5}}, {store(0, 0, 1), {Hart: 1, Kind: 1, N: 1}},
	}
	// What would be right but for one event more.
	return append(all, append(slices.Repeat([]api.Event{load(2, 0)}, 6), load(3, 3)), append(slices.Repeat([]api.Event{store(2, 0, 5)}, 6), fence(0)))
}

// L1 to L4: of what is no program nothing is told.
func TestNoProgram(t *testing.T) {
	for _, l := range noPrograms() {
		if litmus.Right(l) {
			t.Errorf("%v: right", l)
		}
		var script []api.Pick
		for _, e := range l {
			script = append(script, next(e.Hart))
		}
		for _, s := range [][]api.Pick{script, nil, append(slices.Clone(script), drain(0, 0))} {
			if outcome, ok := litmus.Play(l, s); len(outcome) > 0 || ok {
				t.Errorf("%v: Play: %v, %v", l, outcome, ok)
			}
		}
		if plays, axioms := litmus.Plays(l), litmus.Axioms(l); len(plays) > 0 || len(axioms) > 0 {
			t.Errorf("%v: %v, %v", l, plays, axioms)
		}
		for n := range 10 {
			for _, x := range []int{0, 1} {
				if s, ok := litmus.Script(l, slices.Repeat([]int{x}, n)); len(s) > 0 || ok {
					t.Errorf("%v: Script: %v, %v", l, s, ok)
				}
			}
		}
	}
}

// L2: scripts that may be, and what they tell.
func TestPlay(t *testing.T) {
	both := []api.Event{store(0, 0, 1), load(0, 1), store(1, 1, 2), load(1, 0)}
	pair := []api.Event{store(0, 0, 1), store(0, 1, 2), load(1, 1), load(1, 0)}
	own := []api.Event{store(2, 3, 5), load(2, 3), store(2, 3, 6), load(2, 3), load(3, 3)}
	for name, x := range map[string]struct {
		l      []api.Event
		script []api.Pick
		want   []int
	}{
		"none":                          {nil, nil, nil},
		"no load":                       {[]api.Event{store(0, 0, 1)}, []api.Pick{next(0)}, nil},
		"fences":                        {[]api.Event{fence(3), fence(0)}, []api.Pick{next(0), next(3)}, nil},
		"a load alone":                  {[]api.Event{load(3, 3)}, []api.Pick{next(3)}, []int{0}},
		"nothing is drained":            {both, []api.Pick{next(0), next(1), next(0), next(1)}, []int{0, 0}},
		"one is drained":                {both, []api.Pick{next(0), drain(0, 0), next(1), next(0), next(1)}, []int{0, 1}},
		"the other one is":              {both, []api.Pick{next(0), next(1), drain(1, 0), next(0), next(1)}, []int{2, 0}},
		"both are":                      {both, []api.Pick{next(0), next(1), drain(1, 0), drain(0, 0), next(1), next(0)}, []int{2, 1}},
		"drained too late":              {both, []api.Pick{next(0), next(1), next(1), next(0), drain(1, 0), drain(0, 0)}, []int{0, 0}},
		"one hart behind the other":     {both, []api.Pick{next(1), next(1), drain(1, 0), next(0), next(0)}, []int{2, 0}},
		"the second one first":          {pair, []api.Pick{next(0), next(0), drain(0, 1), next(1), next(1)}, []int{2, 0}},
		"the first one first":           {pair, []api.Pick{next(0), next(0), drain(0, 0), next(1), next(1)}, []int{0, 1}},
		"both, turned":                  {pair, []api.Pick{next(0), next(0), drain(0, 1), drain(0, 0), next(1), next(1)}, []int{2, 1}},
		"both, the first one first":     {pair, []api.Pick{next(0), next(0), drain(0, 0), drain(0, 0), next(1), next(1)}, []int{2, 1}},
		"its own, pending":              {own, []api.Pick{next(2), next(2), next(3), next(2), next(2)}, []int{5, 6, 0}},
		"its own, two pending":          {own, []api.Pick{next(2), next(2), next(2), drain(2, 0), next(3), next(2)}, []int{5, 6, 5}},
		"its own, drained":              {own, []api.Pick{next(2), drain(2, 0), next(2), next(2), drain(2, 0), next(2), next(3)}, []int{5, 6, 6}},
		"the list's order, not theirs":  {[]api.Event{load(1, 0), load(0, 0), store(0, 0, 9)}, []api.Pick{next(0), next(0), drain(0, 0), next(1)}, []int{9, 0}},
		"a fence, nothing pending":      {[]api.Event{store(0, 0, 1), fence(0), load(0, 0)}, []api.Pick{next(0), drain(0, 0), next(0), next(0)}, []int{1}},
		"a fence, another's is pending": {[]api.Event{store(0, 0, 1), fence(1), load(1, 0)}, []api.Pick{next(0), next(1), next(1)}, []int{0}},
		"the edges":                     {[]api.Event{store(3, 3, -1<<31), load(3, 3), store(0, 2, 1<<31-1), load(1, 2)}, []api.Pick{next(3), next(3), next(0), drain(0, 0), next(1)}, []int{-1 << 31, 1<<31 - 1}},
		"six pending":                   {slices.Repeat([]api.Event{store(1, 1, 7)}, 6), slices.Repeat([]api.Pick{next(1)}, 6), nil},
	} {
		got, ok := litmus.Play(x.l, x.script)
		if !ok || !slices.Equal(got, x.want) {
			t.Errorf("%s: %v, %v, not %v", name, got, ok, x.want)
		}
		if want, ok := wantPlay(x.l, x.script); !ok || !slices.Equal(want, x.want) {
			t.Errorf("%s: by the words: %v, %v, not %v", name, want, ok, x.want)
		}
	}
}

// L2: scripts that may not be.
func TestPlayNot(t *testing.T) {
	both := []api.Event{store(0, 0, 1), load(0, 1), store(1, 1, 2), load(1, 0)}
	twice := []api.Event{store(0, 0, 1), store(0, 1, 2), store(0, 0, 3), load(1, 0)}
	fenced := []api.Event{store(0, 0, 1), store(0, 1, 1), fence(0), load(0, 1)}
	for name, x := range map[string]struct {
		l      []api.Event
		script []api.Pick
	}{
		"no pick":                      {both, nil},
		"one event is left":            {both, []api.Pick{next(0), next(1), next(0)}},
		"one is left, all is drained":  {both, []api.Pick{next(0), next(1), next(0), drain(0, 0), drain(1, 0)}},
		"the first one is left":        {[]api.Event{load(0, 0), load(1, 0)}, []api.Pick{next(1)}},
		"a fence is left":              {[]api.Event{load(0, 0), fence(0)}, []api.Pick{next(0)}},
		"one event too many":           {both, []api.Pick{next(0), next(1), next(0), next(1), next(1)}},
		"of none":                      {nil, []api.Pick{next(0)}},
		"a hart without events":        {both, []api.Pick{next(0), next(0), next(2), next(1), next(1)}},
		"nothing to drain":             {both, []api.Pick{drain(0, 0), next(0), next(1), next(0), next(1)}},
		"nothing to drain of none":     {nil, []api.Pick{drain(0, 0)}},
		"drained twice":                {both, []api.Pick{next(0), drain(0, 0), drain(0, 0), next(1), next(0), next(1)}},
		"another's is drained":         {both, []api.Pick{next(0), drain(1, 0), next(1), next(0), next(1)}},
		"one ahead to that word":       {twice, []api.Pick{next(0), next(0), next(0), drain(0, 2), next(1)}},
		"one ahead, behind the end":    {twice, []api.Pick{next(0), next(0), next(0), next(1), drain(0, 2)}},
		"a fence, one is pending":      {fenced, []api.Pick{next(0), next(0), drain(0, 1), next(0), next(0)}},
		"a fence, two are pending":     {fenced, []api.Pick{next(0), next(0), next(0), next(0)}},
		"behind a fence that may not":  {fenced, []api.Pick{next(0), next(0), next(0), drain(0, 0), drain(0, 0), next(0), next(0)}},
		"a place without Drain":        {[]api.Event{load(0, 0)}, []api.Pick{{Which: 1}}},
		"a place below without Drain":  {[]api.Event{load(0, 0)}, []api.Pick{{Which: -1}}},
		"a pending one's, no Drain":    {[]api.Event{store(0, 0, 1), store(0, 1, 1), load(0, 0)}, []api.Pick{next(0), next(0), {Which: 1}}},
		"a drained one is drained":     {[]api.Event{store(0, 0, 1)}, []api.Pick{next(0), drain(0, 0), drain(0, 0)}},
		"what may not be is the first": {[]api.Event{load(0, 0)}, []api.Pick{next(1), next(0)}},
		"what may not be is the last":  {[]api.Event{load(0, 0)}, []api.Pick{next(0), next(0)}},
		"very long":                    {both, slices.Repeat([]api.Pick{next(0)}, 1<<20)},
	} {
		if got, ok := litmus.Play(x.l, x.script); len(got) > 0 || ok {
			t.Errorf("%s: %v, %v", name, got, ok)
		}
		if got, ok := wantPlay(x.l, x.script); len(got) > 0 || ok {
			t.Errorf("%s: by the words: %v, %v", name, got, ok)
		}
	}
}

// L2: harts and places that there are not, at each pick of a script that may be.
func TestPlayPlaces(t *testing.T) {
	l := []api.Event{store(0, 0, 1), store(1, 1, 2), load(0, 1), load(1, 0), store(3, 0, 4)}
	script := []api.Pick{next(0), next(3), next(1), drain(1, 0), drain(0, 0), next(0), next(1), drain(3, 0)}
	if got, ok := litmus.Play(l, script); !slices.Equal(got, []int{2, 1}) || !ok {
		t.Fatalf("%v, %v", got, ok)
	}
	for i, p := range script {
		for _, n := range noPlaces {
			for _, bad := range []api.Pick{{Hart: n, Drain: p.Drain, Which: p.Which}, {Hart: p.Hart, Drain: p.Drain, Which: n}, {Hart: n, Drain: !p.Drain, Which: n}, {Hart: 2, Drain: p.Drain}, {Hart: p.Hart, Drain: p.Drain, Which: 1}} {
				with := slices.Clone(script)
				with[i] = bad
				more := slices.Insert(slices.Clone(script), i, bad)
				for _, s := range [][]api.Pick{with, more} {
					got, ok := litmus.Play(l, s)
					if want, isPlayed := wantPlay(l, s); ok != isPlayed || ok || !slices.Equal(got, want) {
						t.Fatalf("%v at %d: %v, %v", bad, i, got, ok)
					}
				}
			}
		}
	}
}

// all are all rows of n noughts and ones.
func all(n int) [][]int { return slices.Collect(rows([]int{0, 1}, n)) }

// but are those without some.
func but(l [][]int, some ...[]int) [][]int {
	isOne := func(x []int) bool {
		return slices.ContainsFunc(some, func(y []int) bool { return slices.Equal(x, y) })
	}
	return slices.DeleteFunc(slices.Clone(l), isOne)
}

// known are programs of which it is known what they may tell.
func known() map[string]struct {
	l    []api.Event
	want [][]int
} {
	return map[string]struct {
		l    []api.Event
		want [][]int
	}{
		"none":                         {nil, [][]int{{}}},
		"no load":                      {[]api.Event{store(0, 0, 1), fence(0), store(1, 0, 2)}, [][]int{{}}},
		"nothing stored":               {[]api.Event{load(0, 0), load(1, 3), fence(1)}, [][]int{{0, 0}}},
		"another word is stored":       {[]api.Event{load(0, 0), store(1, 3, 7)}, [][]int{{0}}},
		"its own":                      {[]api.Event{store(0, 0, 5), load(0, 0), store(0, 0, 6), load(0, 0)}, [][]int{{5, 6}}},
		"its own, from behind":         {[]api.Event{load(0, 0), store(0, 0, 5)}, [][]int{{0}}},
		"another's":                    {[]api.Event{load(0, 0), store(1, 0, 5)}, [][]int{{0}, {5}}},
		"its own or another's":         {[]api.Event{store(0, 0, 5), load(0, 0), store(1, 0, 3)}, [][]int{{3}, {5}}},
		"its own, then another's":      {[]api.Event{store(0, 0, 1), load(0, 0), load(0, 0), store(1, 0, 2)}, [][]int{{1, 1}, {1, 2}, {2, 2}}},
		"the lesser one ahead":         {[]api.Event{store(1, 0, 5), store(2, 0, -5), store(3, 0, -1<<31), load(0, 0)}, [][]int{{-1 << 31}, {-5}, {0}, {5}}},
		"by number, not by digits":     {[]api.Event{store(1, 0, 10), store(2, 0, 9), store(3, 0, 1<<31-1), load(0, 0)}, [][]int{{0}, {9}, {10}, {1<<31 - 1}}},
		"by the first unlike one":      {[]api.Event{load(0, 0), load(1, 1), store(2, 0, -1), store(3, 1, 1)}, [][]int{{-1, 0}, {-1, 1}, {0, 0}, {0, 1}}},
		"each once":                    {[]api.Event{store(1, 0, 5), store(2, 0, 5), store(3, 0, 0), load(0, 0)}, [][]int{{0}, {5}}},
		"both load late":               {[]api.Event{store(0, 0, 1), load(0, 1), store(1, 1, 1), load(1, 0)}, all(2)},
		"both load late, fences":       {[]api.Event{store(0, 0, 1), fence(0), load(0, 1), store(1, 1, 1), fence(1), load(1, 0)}, but(all(2), []int{0, 0})},
		"both load late, one fence":    {[]api.Event{store(0, 0, 1), fence(0), load(0, 1), store(1, 1, 1), load(1, 0)}, all(2)},
		"both load late, idle fences":  {[]api.Event{fence(0), store(0, 0, 1), load(0, 1), store(1, 1, 1), load(1, 0), fence(1)}, all(2)},
		"both load late, not theirs":   {[]api.Event{store(0, 0, 1), fence(1), load(0, 1), fence(0), store(1, 1, 1), load(1, 0)}, all(2)},
		"both load late, own ones too": {[]api.Event{store(0, 0, 1), load(0, 0), load(0, 1), store(1, 1, 1), load(1, 1), load(1, 0)}, [][]int{{1, 0, 1, 0}, {1, 0, 1, 1}, {1, 1, 1, 0}, {1, 1, 1, 1}}},
		"both load first":              {[]api.Event{load(0, 1), store(0, 0, 1), load(1, 0), store(1, 1, 1)}, but(all(2), []int{1, 1})},
		"a message":                    {[]api.Event{store(0, 0, 1), store(0, 1, 1), load(1, 1), load(1, 0)}, all(2)},
		"a message, a fence":           {[]api.Event{store(0, 0, 1), fence(0), store(0, 1, 1), load(1, 1), load(1, 0)}, but(all(2), []int{1, 0})},
		"a message, its reader's":      {[]api.Event{store(0, 0, 1), store(0, 1, 1), load(1, 1), fence(1), load(1, 0)}, all(2)},
		"a message by one word":        {[]api.Event{store(0, 0, 1), store(0, 0, 2), load(1, 0), load(1, 0)}, [][]int{{0, 0}, {0, 1}, {0, 2}, {1, 1}, {1, 2}, {2, 2}}},
		"a message, passed on":         {[]api.Event{store(0, 0, 1), load(1, 0), store(1, 1, 1), load(2, 1), load(2, 0)}, but(all(3), []int{1, 1, 0})},
		"two readers, two words":       {[]api.Event{store(0, 0, 1), store(1, 1, 1), load(2, 0), load(2, 1), load(3, 1), load(3, 0)}, but(all(4), []int{1, 0, 1, 0})},
		"two readers, one word":        {[]api.Event{store(0, 0, 1), store(1, 0, 2), load(2, 0), load(2, 0), load(3, 0), load(3, 0)}, twoReaders()},
	}
}

// twoReaders are what two harts may tell that load a word twice each, to which 1 and 2 are stored by two others: both saw them come in the same order.
func twoReaders() [][]int {
	var all [][]int
	for told := range rows([]int{0, 1, 2}, 4) {
		isSeen := func(order ...int) bool {
			place := func(i int) int { return slices.Index(order, told[i]) }
			return place(0) <= place(1) && place(2) <= place(3)
		}
		if isSeen(0, 1, 2) || isSeen(0, 2, 1) {
			all = append(all, told)
		}
	}
	return all
}

// L3: which outcomes there are, in order, each once.
func TestKnown(t *testing.T) {
	for name, x := range known() {
		if got := litmus.Plays(x.l); !areSame(got, x.want) {
			t.Errorf("%s: Plays: %v, not %v", name, got, x.want)
		}
		if got := litmus.Axioms(x.l); !areSame(got, x.want) {
			t.Errorf("%s: Axioms: %v, not %v", name, got, x.want)
		}
		if got := wantPlays(x.l); !areSame(got, x.want) {
			t.Errorf("%s: by the words: %v, not %v", name, got, x.want)
		}
		if got := wantAxioms(x.l); !areSame(got, x.want) {
			t.Errorf("%s: axioms by the words: %v, not %v", name, got, x.want)
		}
	}
}

// isPlayed holds what Script tells of an outcome.
func isPlayed(t *testing.T, l []api.Event, outcome []int, want bool) {
	t.Helper()
	script, ok := litmus.Script(l, outcome)
	if ok != want || !ok && len(script) > 0 {
		t.Fatalf("%s: %v: %v, %v", text(l), outcome, script, ok)
	}
	if !ok {
		return
	}
	got, isEnded := litmus.Play(l, script)
	byWords, _ := wantPlay(l, script)
	if !isEnded || !slices.Equal(got, outcome) || !slices.Equal(byWords, outcome) {
		t.Fatalf("%s: %v: %v tells %v, %v; by the words: %v", text(l), outcome, script, got, isEnded, byWords)
	}
}

// L4: a script of each outcome that there is, and none of others.
func TestScript(t *testing.T) {
	for _, x := range known() {
		for _, outcome := range x.want {
			isPlayed(t, x.l, outcome, true)
			isPlayed(t, x.l, append(slices.Clone(outcome), 0), false)
			if len(outcome) > 0 {
				isPlayed(t, x.l, outcome[1:], false)
				isPlayed(t, x.l, nil, false)
			}
			// A number that none is like but in 32 bits.
			for i := range outcome {
				other := slices.Clone(outcome)
				other[i] += 1 << 32
				isPlayed(t, x.l, other, false)
			}
		}
		for outcome := range rows([]int{0, 1, 2, 3}, loads(x.l)) {
			isThere := slices.ContainsFunc(x.want, func(y []int) bool { return slices.Equal(outcome, y) })
			isPlayed(t, x.l, outcome, isThere)
		}
	}
	isPlayed(t, nil, []int{}, true)
	isPlayed(t, nil, nil, true)
	isPlayed(t, []api.Event{load(0, 0)}, make([]int, 100000), false)
	for _, n := range append(noNumbers, 1, -1, 77) {
		isPlayed(t, []api.Event{load(0, 0), store(1, 0, 2)}, []int{n}, false)
	}
}
