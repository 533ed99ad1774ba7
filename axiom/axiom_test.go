package axiom_test

import (
	"math"
	"slices"
	"testing"

	"headstock/api"
	"headstock/axiom"
)

// A1: how many events there may be.
func TestRightCount(t *testing.T) {
	for n := range 20 {
		for _, e := range []api.Event{load(0, 0, 0), store(3, 3, -7), fence(2)} {
			if got := axiom.Right(slices.Repeat([]api.Event{e}, n)); got != (n <= 8) {
				t.Errorf("%d of %v: %v", n, e, got)
			}
		}
	}
	if !axiom.Right(nil) || !axiom.Right([]api.Event{}) {
		t.Error("none")
	}
	if axiom.Right(make([]api.Event, 100000)) || axiom.Right(slices.Repeat([]api.Event{fence(0)}, 100000)) {
		t.Error("many")
	}
}

// A1: each field by itself, at its edges, at each place of a list.
func TestRightFields(t *testing.T) {
	type row struct {
		e    api.Event
		want bool
	}
	var rows []row
	for _, e := range []api.Event{load(0, 0, 0), store(0, 0, 0), fence(0)} {
		with := func(field func(*api.Event), want bool) {
			field(&e)
			rows = append(rows, row{e, want})
		}
		isAccess := e.Kind != api.EventFence
		for hart := range 4 {
			with(func(e *api.Event) { e.Hart = hart }, true)
		}
		for _, hart := range append([]int{4, 5, 7}, noPlaces...) {
			with(func(e *api.Event) { e.Hart = hart }, false)
		}
		e.Hart = 3
		for at := range 4 {
			with(func(e *api.Event) { e.At = at }, isAccess || at == 0)
		}
		for _, at := range append([]int{4, 5, 7}, noPlaces...) {
			with(func(e *api.Event) { e.At = at }, false)
		}
		e.At = 0
		for _, n := range someNumbers {
			with(func(e *api.Event) { e.N = n }, isAccess || n == 0)
		}
		for _, n := range noNumbers {
			with(func(e *api.Event) { e.N = n }, false)
		}
		e.N = 0
		for _, kind := range append([]int{0, 4, 5, 6}, noPlaces...) {
			with(func(e *api.Event) { e.Kind = kind }, false)
		}
	}
	for _, x := range rows {
		for n := 1; n <= 8; n++ {
			for i := range n {
				l := slices.Repeat([]api.Event{load(1, 2, 3)}, n)
				l[i] = x.e
				if got := axiom.Right(l); got != x.want {
					t.Errorf("%v, at %d of %d: %v", x.e, i, n, got)
				}
			}
		}
	}
}

// A1: fields that are wrong together, or that would be right of another kind.
func TestRightTogether(t *testing.T) {
	numbers := []int{-1, 0, 1, 2, 3, 4, 5, 1 << 31, -1 << 31}
	for _, hart := range numbers {
		for _, kind := range numbers {
			for _, at := range numbers {
				for _, n := range numbers {
					l := []api.Event{{Hart: hart, Kind: kind, At: at, N: n}}
					if got, want := axiom.Right(l), wantRight(l); got != want {
						t.Errorf("%v: %v, not %v", l, got, want)
					}
				}
			}
		}
	}
}

// A2: which must be ahead of which.
func TestKeeps(t *testing.T) {
	for name, x := range map[string]struct {
		l    []api.Event
		want bool // of the first and the last one
	}{
		"load, load":                  {[]api.Event{load(0, 0, 0), load(0, 1, 0)}, true},
		"load, load of the word":      {[]api.Event{load(0, 0, 0), load(0, 0, 0)}, true},
		"load, store":                 {[]api.Event{load(0, 0, 0), store(0, 1, 1)}, true},
		"load, store to the word":     {[]api.Event{load(0, 0, 0), store(0, 0, 1)}, true},
		"store, load":                 {[]api.Event{store(0, 0, 1), load(0, 1, 0)}, false},
		"store, load of the word":     {[]api.Event{store(0, 0, 1), load(0, 0, 1)}, false},
		"store, store":                {[]api.Event{store(0, 0, 1), store(0, 1, 1)}, false},
		"store, store to the word":    {[]api.Event{store(0, 0, 1), store(0, 0, 2)}, true},
		"the same number":             {[]api.Event{store(3, 3, 7), store(3, 3, 7)}, true},
		"word 0 and word 3":           {[]api.Event{store(0, 0, 3), store(0, 3, 0)}, false},
		"store, fence, load":          {[]api.Event{store(0, 0, 1), fence(0), load(0, 1, 0)}, true},
		"store, fence, load of it":    {[]api.Event{store(0, 0, 1), fence(0), load(0, 0, 1)}, true},
		"store, fence, store":         {[]api.Event{store(0, 0, 1), fence(0), store(0, 1, 1)}, true},
		"load, fence, load":           {[]api.Event{load(0, 0, 0), fence(0), load(0, 1, 0)}, true},
		"another's fence":             {[]api.Event{store(0, 0, 1), fence(1), load(0, 1, 0)}, false},
		"hart 0's fence":              {[]api.Event{store(1, 0, 1), fence(0), load(1, 1, 0)}, false},
		"one more between":            {[]api.Event{store(0, 0, 1), load(0, 2, 0), store(0, 3, 1), load(0, 1, 0)}, false},
		"a fence and more between":    {[]api.Event{store(0, 0, 1), load(1, 1, 0), load(0, 2, 0), fence(0), store(0, 3, 1), load(0, 1, 0)}, true},
		"a store to both between":     {[]api.Event{store(0, 0, 1), store(0, 0, 2), load(0, 0, 2)}, false},
		"two harts":                   {[]api.Event{load(0, 0, 0), load(1, 0, 0)}, false},
		"two harts' stores":           {[]api.Event{store(0, 0, 1), store(1, 0, 1)}, false},
		"two harts, fences":           {[]api.Event{store(0, 0, 1), fence(0), fence(1), store(1, 0, 1)}, false},
		"two harts, and a store each": {[]api.Event{load(2, 1, 1), fence(2), store(3, 1, 1)}, false},
	} {
		first, last := 0, len(x.l)-1
		if got := axiom.Keeps(x.l, first, last); got != x.want {
			t.Errorf("%s: %v", name, got)
		}
		if axiom.Keeps(x.l, last, first) || axiom.Keeps(x.l, first, first) || axiom.Keeps(x.l, last, last) {
			t.Errorf("%s: backwards, or of itself", name)
		}
		// A fence that does not stand between changes nothing.
		around := append([]api.Event{fence(x.l[0].Hart)}, append(slices.Clone(x.l), fence(x.l[0].Hart))...)
		if got := axiom.Keeps(around, 1, len(x.l)); got != x.want {
			t.Errorf("%s, fences around it: %v", name, got)
		}
	}
}

// A2: what is not the place of an access, and what is not right.
func TestKeepsNot(t *testing.T) {
	l := []api.Event{load(0, 0, 0), fence(0), load(0, 1, 0), fence(0), store(0, 0, 1)}
	for _, x := range [][2]int{{0, 2}, {0, 4}, {2, 4}} {
		if !axiom.Keeps(l, x[0], x[1]) {
			t.Errorf("%v", x)
		}
	}
	for _, i := range append([]int{1, 3, 5}, noPlaces...) {
		for _, k := range append([]int{0, 1, 2, 3, 4, 5}, noPlaces...) {
			if axiom.Keeps(l, i, k) || axiom.Keeps(l, k, i) {
				t.Errorf("%d, %d", i, k)
			}
		}
	}
	for name, more := range map[string][]api.Event{
		"no hart": {load(4, 0, 0)}, "no word": {store(0, 4, 0)}, "no kind": {{Kind: 4}}, "no number": {load(0, 0, 1<<31)}, "no fence": {{Kind: 3, N: 1}}, "nine": {fence(1), fence(1), fence(1), fence(1)},
	} {
		if bad := slices.Concat(l, more); axiom.Keeps(bad, 0, 2) || axiom.Keeps(bad, 0, 4) {
			t.Errorf("%s: it is kept", name)
		}
	}
	if axiom.Keeps(nil, 0, 0) || axiom.Keeps(nil, 0, 1) {
		t.Error("of none")
	}
}

// A3: what a load tells.
func TestValue(t *testing.T) {
	for name, x := range map[string]struct {
		l     []api.Event
		order []int
		i     int
		want  int
	}{
		"none":                         {[]api.Event{load(0, 0, 5)}, []int{0}, 0, 0},
		"another's, ahead":             {[]api.Event{load(0, 0, 0), store(1, 0, 7)}, []int{1, 0}, 0, 7},
		"another's, behind":            {[]api.Event{load(0, 0, 0), store(1, 0, 7)}, []int{0, 1}, 0, 0},
		"another's, ahead in list":     {[]api.Event{store(1, 0, 7), load(0, 0, 0)}, []int{1, 0}, 1, 0},
		"another word's":               {[]api.Event{store(1, 1, 7), load(0, 0, 0)}, []int{0, 1}, 1, 0},
		"its own, ahead":               {[]api.Event{store(0, 0, 7), load(0, 0, 0)}, []int{0, 1}, 1, 7},
		"its own, behind in order":     {[]api.Event{store(0, 0, 7), load(0, 0, 0)}, []int{1, 0}, 1, 7},
		"its own, behind in program":   {[]api.Event{load(0, 0, 0), store(0, 0, 7)}, []int{0, 1}, 0, 0},
		"its own from behind, ahead":   {[]api.Event{load(0, 0, 0), store(0, 0, 7)}, []int{1, 0}, 0, 7},
		"its own of another word":      {[]api.Event{store(0, 1, 7), load(0, 0, 0)}, []int{1, 0}, 1, 0},
		"the last of two":              {[]api.Event{store(1, 0, 7), store(2, 0, 8), load(0, 0, 0)}, []int{1, 0, 2}, 2, 7},
		"the last of two, turned":      {[]api.Event{store(1, 0, 7), store(2, 0, 8), load(0, 0, 0)}, []int{0, 1, 2}, 2, 8},
		"one ahead, one behind":        {[]api.Event{store(1, 0, 7), store(2, 0, 8), load(0, 0, 0)}, []int{1, 2, 0}, 2, 8},
		"its own behind another's":     {[]api.Event{store(0, 0, 7), load(0, 0, 0), store(1, 0, 8)}, []int{2, 1, 0}, 1, 7},
		"another's behind its own":     {[]api.Event{store(0, 0, 7), load(0, 0, 0), store(1, 0, 8)}, []int{0, 2, 1}, 1, 8},
		"its own behind, one between":  {[]api.Event{store(0, 0, 7), load(0, 0, 0), store(1, 0, 8)}, []int{1, 2, 0}, 1, 7},
		"its own two, as they stand":   {[]api.Event{store(0, 0, 7), store(0, 0, 8), load(0, 0, 0)}, []int{2, 0, 1}, 2, 8},
		"its own two, turned in order": {[]api.Event{store(0, 0, 7), store(0, 0, 8), load(0, 0, 0)}, []int{2, 1, 0}, 2, 7},
		"its own, one ahead in order":  {[]api.Event{store(0, 0, 7), store(0, 0, 8), load(0, 0, 0)}, []int{1, 2, 0}, 2, 7},
		"fences are no stores":         {[]api.Event{store(1, 0, 7), fence(1), fence(0), load(0, 0, 0), fence(0)}, []int{0, 3}, 3, 7},
		"a nought":                     {[]api.Event{store(1, 0, 7), store(0, 0, 0), load(0, 0, 9)}, []int{0, 1, 2}, 2, 0},
		"the edges":                    {[]api.Event{store(1, 3, -1<<31), load(3, 3, 0), store(3, 3, 1<<31-1)}, []int{0, 1, 2}, 1, -1 << 31},
		"loads are no stores":          {[]api.Event{load(1, 0, 7), load(0, 0, 8)}, []int{0, 1}, 1, 0},
	} {
		if n, is := axiom.Value(x.l, x.order, x.i); n != x.want || !is {
			t.Errorf("%s: %d, %v, not %d", name, n, is, x.want)
		}
		if n, is := wantValue(x.l, x.order, x.i); n != x.want || !is {
			t.Errorf("%s: by the words: %d, %v, not %d", name, n, is, x.want)
		}
	}
}

// noOrders are such as are no order of the accesses of notOrdered.
var notOrdered = []api.Event{store(1, 0, 7), fence(1), load(0, 0, 7), store(0, 0, 8)}

var noOrders = [][]int{
	nil, {}, {0}, {0, 2}, {2, 3}, {0, 3}, {0, 0, 2}, {0, 2, 2}, {0, 2, 0}, {3, 2, 3}, {0, 2, 3, 3}, {0, 2, 3, 0}, {0, 1, 2, 3}, {0, 1, 2}, {1, 2, 3}, {0, 1, 3},
	{0, 2, 4}, {0, 2, 3, 4}, {-1, 2, 3}, {0, 2, -3}, {0, 2, 3, -1}, {0, 2, math.MaxInt}, {0, 2, math.MinInt}, {1<<32 + 0, 2, 3}, {0, 2, 3, 1 << 32}, {0, 2, 3, 0, 2, 3}, {2, 2, 2},
}

// A3: where nothing is told.
func TestValueNot(t *testing.T) {
	l := notOrdered
	if n, is := axiom.Value(l, []int{0, 2, 3}, 2); n != 7 || !is {
		t.Errorf("an order: %d, %v", n, is)
	}
	isNone := func(name string, l []api.Event, order []int, i int) {
		t.Helper()
		if n, is := axiom.Value(l, order, i); n != 0 || is {
			t.Errorf("%s: %v, %d: %d, %v", name, order, i, n, is)
		}
	}
	for _, order := range append(noOrders, make([]int, 100000)) {
		isNone("no order", l, order, 2)
	}
	for _, i := range append([]int{0, 1, 3, 4}, noPlaces...) {
		isNone("no load", l, []int{0, 2, 3}, i)
		isNone("no load, no order", l, []int{0, 2}, i)
	}
	for _, e := range []api.Event{load(4, 0, 0), store(0, 4, 0), store(2, 0, 1<<31), {Kind: 5}} {
		isNone("not right", append(slices.Clone(l), e), []int{0, 2, 3, 4}, 2)
	}
	isNone("not right", append(slices.Clone(l), api.Event{Kind: 3, At: 1}), []int{0, 2, 3}, 2)
	isNone("nine", append(slices.Clone(l), slices.Repeat([]api.Event{fence(3)}, 5)...), []int{0, 2, 3}, 2)
	isNone("nothing", nil, nil, 0)
}

// A4: which orders hold.
func TestHolds(t *testing.T) {
	for name, x := range map[string]struct {
		l     []api.Event
		order []int
		want  bool
	}{
		"none":                      {nil, nil, true},
		"empty":                     {[]api.Event{}, []int{}, true},
		"fences alone":              {[]api.Event{fence(0), fence(1)}, nil, true},
		"nothing stored":            {[]api.Event{load(0, 0, 0)}, []int{0}, true},
		"nothing stored, but told":  {[]api.Event{load(0, 0, 1)}, []int{0}, false},
		"one stored":                {[]api.Event{load(0, 0, 1), store(1, 0, 1)}, []int{1, 0}, true},
		"one stored later":          {[]api.Event{load(0, 0, 1), store(1, 0, 1)}, []int{0, 1}, false},
		"loads turned":              {[]api.Event{load(0, 0, 0), load(0, 1, 0)}, []int{1, 0}, false},
		"loads of one word turned":  {[]api.Event{load(0, 0, 0), load(0, 0, 0)}, []int{1, 0}, false},
		"a load behind a store":     {[]api.Event{load(0, 0, 0), store(0, 1, 1)}, []int{1, 0}, false},
		"a store behind a load":     {[]api.Event{store(0, 1, 1), load(0, 0, 0)}, []int{1, 0}, true},
		"a fence between":           {[]api.Event{store(0, 1, 1), fence(0), load(0, 0, 0)}, []int{2, 0}, false},
		"another's fence between":   {[]api.Event{store(0, 1, 1), fence(1), load(0, 0, 0)}, []int{2, 0}, true},
		"stores turned":             {[]api.Event{store(0, 1, 1), store(0, 0, 2)}, []int{1, 0}, true},
		"stores to one word turned": {[]api.Event{store(0, 1, 1), store(0, 1, 2)}, []int{1, 0}, false},
		"stores, a fence, turned":   {[]api.Event{store(0, 1, 1), fence(0), store(0, 0, 2)}, []int{1, 0}, false},
		"far apart":                 {[]api.Event{store(0, 1, 1), store(1, 0, 3), store(0, 1, 2)}, []int{2, 1, 0}, false},
		"its own, ahead":            {[]api.Event{store(0, 1, 1), load(0, 1, 1)}, []int{1, 0}, true},
		"its own, not told":         {[]api.Event{store(0, 1, 1), load(0, 1, 0)}, []int{1, 0}, false},
		"one load of two is wrong":  {[]api.Event{store(0, 1, 1), load(1, 1, 1), load(2, 1, 0)}, []int{0, 1, 2}, false},
		"the first load is wrong":   {[]api.Event{load(1, 1, 1), store(0, 1, 1), load(2, 1, 1)}, []int{0, 1, 2}, false},
		"two harts, any order":      {[]api.Event{load(1, 1, 1), store(0, 1, 1), load(2, 1, 1)}, []int{1, 2, 0}, true},
		"not right":                 {[]api.Event{load(4, 0, 0)}, []int{0}, false},
		"nine":                      {slices.Repeat([]api.Event{fence(0)}, 9), nil, false},
		"eight":                     {slices.Repeat([]api.Event{load(3, 3, 0)}, 8), []int{0, 1, 2, 3, 4, 5, 6, 7}, true},
		"nine loads":                {slices.Repeat([]api.Event{load(3, 3, 0)}, 9), []int{0, 1, 2, 3, 4, 5, 6, 7, 8}, false},
	} {
		if got := axiom.Holds(x.l, x.order); got != x.want {
			t.Errorf("%s: %v", name, got)
		}
	}
	if !axiom.Holds(notOrdered, []int{0, 2, 3}) {
		t.Error("an order does not hold")
	}
	for _, order := range append(noOrders, make([]int, 100000)) {
		if axiom.Holds(notOrdered, order) {
			t.Errorf("no order: %v", order)
		}
	}
}

// A4: which histories may be: the chapter's examples, and others that are known.
func TestAllowed(t *testing.T) {
	for name, x := range map[string]struct {
		l    []api.Event
		want bool
	}{
		"none":                              {nil, true},
		"fences":                            {slices.Repeat([]api.Event{fence(1)}, 8), true},
		"both load late":                    {[]api.Event{store(0, 0, 1), load(0, 1, 0), store(1, 1, 1), load(1, 0, 0)}, true},
		"both load late, fences":            {[]api.Event{store(0, 0, 1), fence(0), load(0, 1, 0), store(1, 1, 1), fence(1), load(1, 0, 0)}, false},
		"both load late, one fence":         {[]api.Event{store(0, 0, 1), fence(0), load(0, 1, 0), store(1, 1, 1), load(1, 0, 0)}, true},
		"both load late, foreign fences":    {[]api.Event{store(0, 0, 1), fence(1), load(0, 1, 0), fence(1), store(1, 1, 1), fence(0), load(1, 0, 0)}, true},
		"one loads late":                    {[]api.Event{store(0, 0, 1), fence(0), load(0, 1, 0), store(1, 1, 1), fence(1), load(1, 0, 1)}, true},
		"both load first":                   {[]api.Event{load(0, 1, 1), store(0, 0, 1), load(1, 0, 1), store(1, 1, 1)}, false},
		"one loads first":                   {[]api.Event{load(0, 1, 1), store(0, 0, 1), load(1, 0, 0), store(1, 1, 1)}, true},
		"a message":                         {[]api.Event{store(0, 0, 1), store(0, 1, 1), load(1, 1, 1), load(1, 0, 1)}, true},
		"a message without its words":       {[]api.Event{store(0, 0, 1), store(0, 1, 1), load(1, 1, 1), load(1, 0, 0)}, true},
		"a message behind a fence":          {[]api.Event{store(0, 0, 1), fence(0), store(0, 1, 1), load(1, 1, 1), load(1, 0, 0)}, false},
		"a fence where it is read":          {[]api.Event{store(0, 0, 1), store(0, 1, 1), load(1, 1, 1), fence(1), load(1, 0, 0)}, true},
		"one word goes back":                {[]api.Event{store(0, 0, 1), load(1, 0, 1), load(1, 0, 0)}, false},
		"one word, two ways":                {[]api.Event{store(0, 0, 1), store(1, 0, 2), load(2, 0, 1), load(2, 0, 2), load(3, 0, 2), load(3, 0, 1)}, false},
		"one word, one way":                 {[]api.Event{store(0, 0, 1), store(1, 0, 2), load(2, 0, 2), load(2, 0, 1), load(3, 0, 2), load(3, 0, 1)}, true},
		"one hart's stores to one word":     {[]api.Event{store(0, 0, 1), store(0, 0, 2), load(1, 0, 2), load(1, 0, 1)}, false},
		"two words, two ways":               {[]api.Event{store(0, 0, 1), store(1, 1, 1), load(2, 0, 1), load(2, 1, 0), load(3, 1, 1), load(3, 0, 0)}, false},
		"its own first, both":               {[]api.Event{store(0, 0, 1), load(0, 0, 1), load(0, 1, 0), store(1, 1, 1), load(1, 1, 1), load(1, 0, 0)}, true},
		"its own first, then another's":     {[]api.Event{store(0, 0, 1), load(0, 0, 1), load(0, 0, 2), store(1, 0, 2)}, true},
		"its own, another's, its own":       {[]api.Event{store(0, 0, 1), load(0, 0, 2), load(0, 0, 1), store(1, 0, 2)}, false},
		"its own is not seen":               {[]api.Event{store(0, 0, 1), load(0, 0, 0)}, false},
		"another's ahead of its own":        {[]api.Event{store(0, 0, 1), load(0, 0, 2), store(1, 0, 2)}, true},
		"from behind":                       {[]api.Event{load(0, 0, 1), store(0, 0, 1)}, false},
		"out of nothing":                    {[]api.Event{load(0, 0, 1), store(0, 1, 1), load(1, 1, 1), store(1, 0, 1)}, false},
		"what nobody stored":                {[]api.Event{load(0, 0, 9), store(1, 0, 1)}, false},
		"from hand to hand":                 {[]api.Event{store(0, 0, 1), load(1, 0, 1), store(1, 1, 1), load(2, 1, 1), load(2, 0, 0)}, false},
		"two writers each":                  {[]api.Event{store(0, 0, 1), store(0, 1, 2), store(1, 1, 1), store(1, 0, 2), load(2, 0, 2), load(2, 0, 1), load(3, 1, 2), load(3, 1, 1)}, true},
		"two writers each, fences":          {[]api.Event{store(0, 0, 1), fence(0), store(0, 1, 2), store(1, 1, 1), fence(1), store(1, 0, 2), load(2, 0, 2), load(2, 0, 1)}, true},
		"the edges of numbers":              {[]api.Event{store(0, 3, -1<<31), load(1, 3, -1<<31), store(1, 2, 1<<31-1), load(3, 2, 1<<31-1)}, true},
		"the edges of numbers, not":         {[]api.Event{store(0, 3, -1<<31), load(1, 3, 1<<31-1)}, false},
		"noughts are like the first ones":   {[]api.Event{store(0, 0, 0), load(1, 0, 0), store(1, 0, 5), load(0, 0, 5), load(0, 0, 0)}, false},
		"the nought comes last":             {[]api.Event{store(0, 0, 0), store(1, 0, 5), fence(1), load(1, 0, 0)}, true},
		"the nought comes first":            {[]api.Event{store(0, 0, 5), store(1, 0, 0), fence(1), load(1, 0, 5)}, true},
		"both come last":                    {[]api.Event{store(0, 0, 5), fence(0), load(0, 0, 0), store(1, 0, 0), fence(1), load(1, 0, 5)}, false},
		"eight, each of them must be first": {[]api.Event{load(0, 0, 1), store(0, 1, 1), load(1, 1, 1), store(1, 2, 1), load(2, 2, 1), store(2, 3, 1), load(3, 3, 1), store(3, 0, 1)}, false},
		"eight, one is first":               {[]api.Event{load(0, 0, 0), store(0, 1, 1), load(1, 1, 1), store(1, 2, 1), load(2, 2, 1), store(2, 3, 1), load(3, 3, 1), store(3, 0, 1)}, true},
		"nine":                              {slices.Repeat([]api.Event{fence(1)}, 9), false},
		"nine loads":                        {slices.Repeat([]api.Event{load(1, 0, 0)}, 9), false},
		"no hart":                           {[]api.Event{load(4, 0, 0)}, false},
		"no hart below":                     {[]api.Event{store(-1, 0, 0)}, false},
		"no word":                           {[]api.Event{load(0, 4, 0)}, false},
		"no word to store to":               {[]api.Event{store(0, -1, 0)}, false},
		"no kind":                           {[]api.Event{{}}, false},
		"no kind above":                     {[]api.Event{{Kind: 4}}, false},
		"no number":                         {[]api.Event{store(0, 0, 1<<31)}, false},
		"a fence with a number":             {[]api.Event{{Kind: 3, N: 1}}, false},
		"a fence with a word":               {[]api.Event{{Kind: 3, At: 1}}, false},
	} {
		if got := axiom.Allowed(x.l); got != x.want {
			t.Errorf("%s: %v", name, got)
		}
		if got := wantAllowed(x.l); got != x.want {
			t.Errorf("%s: by the words: %v", name, got)
		}
	}
}
