package source_test

import (
	"math"
	"math/rand"
	"slices"
	"strconv"
	"strings"
	"testing"

	"headstock/api"
	"headstock/ceiling"
	"headstock/device"
	"headstock/rule"
	"headstock/source"
	"headstock/wrap"
)

// chance makes programs' texts, and chooses.
type chance struct {
	*rand.Rand
	words   map[string]int // of each resource
	names   []string       // of the resources, in their order
	devices []string
}

func (c *chance) oneOf(l ...string) string { return l[c.Intn(len(l))] }

// expr is an expression that may be where these resources hold.
func (c *chance) expr(deep int, held []string) string {
	switch n := c.Intn(12); {
	case n < 3 || deep == 0 && n < 6:
		return c.oneOf("0", "1", "2", "3", "7", "1000", "2147483647", "4294967295")
	case n < 6 || deep == 0:
		return c.oneOf("x", "y", "z")
	case n == 6:
		return c.oneOf("-", "!", "~") + "(" + c.expr(deep-1, held) + ")"
	case n < 9 && len(held) > 0:
		return c.word(deep-1, held)
	}
	sign, _ := wrap.Sign(1 + c.Intn(14))
	return "(" + c.expr(deep-1, held) + " " + sign + " " + c.expr(deep-1, held) + ")"
}

// word is one of a resource; now and then there is none at that place.
func (c *chance) word(deep int, held []string) string {
	name := c.oneOf(held...)
	if c.Intn(5) > 0 {
		return name + "[" + strconv.Itoa(c.Intn(c.words[name])) + "]"
	}
	return name + "[" + c.expr(max(deep, 0), held) + "]"
}

func (c *chance) block(deep int, held []string) string {
	var b strings.Builder
	for range c.Intn(4) + c.Intn(2) {
		b.WriteString(c.stmt(deep, held) + " ")
	}
	return "{ " + b.String() + "}"
}

func (c *chance) stmt(deep int, held []string) string {
	name := c.oneOf("x", "y", "z")
	n := c.Intn(20)
	if deep == 0 {
		n %= 10
	}
	behind := c.names
	if len(held) > 0 {
		behind = c.names[slices.Index(c.names, held[len(held)-1])+1:]
	}
	reg := "." + strconv.Itoa(c.Intn(4))
	switch {
	case n < 2 && len(c.devices) > 0:
		return name + " = " + c.oneOf(c.devices...) + reg + ";"
	case n < 4 && len(c.devices) > 0:
		return c.oneOf(c.devices...) + reg + " = " + c.expr(2, held) + ";"
	case n < 8 && len(held) > 0:
		return c.word(1, held) + " = " + c.expr(2, held) + ";"
	case n == 9 && c.Intn(3) == 0:
		return "halt;"
	case n >= 10 && n < 15 && len(behind) > 0:
		one := c.oneOf(behind...)
		return "lock " + one + " " + c.block(deep-1, append(slices.Clone(held), one))
	case n >= 15 && n < 18:
		return "if (" + c.expr(2, held) + ") " + c.block(deep-1, held) + " else " + c.block(deep-1, held)
	case n >= 18:
		return "repeat " + strconv.Itoa(c.Intn(4)) + " " + c.block(deep-1, held)
	}
	return name + " = " + c.expr(3, held) + ";"
}

// program is a text of one that may be: of so many harts, resources and devices at most.
func (c *chance) program(harts, resources, devices int) string {
	var b strings.Builder
	harts = 1 + c.Intn(harts)
	b.WriteString("harts " + strconv.Itoa(harts) + "\n")
	c.words, c.names, c.devices = map[string]int{}, nil, nil
	for i := range c.Intn(devices + 1) {
		name := "d" + strconv.Itoa(i)
		c.devices = append(c.devices, name)
		b.WriteString("device " + name + " " + c.oneOf("uart", "timer", "gpio") + "\n")
	}
	for i := range c.Intn(resources + 1) {
		name := "r" + strconv.Itoa(9-i)
		c.names, c.words[name] = append(c.names, name), 1+c.Intn(8)
		b.WriteString("resource " + name + " " + strconv.Itoa(c.words[name]) + "\n")
	}
	var tasks []string
	least := make([]int, harts)
	for hart := range harts {
		if c.Intn(5) > 0 {
			least[hart] = 1 + c.Intn(3)
			tasks = append(tasks, "task t"+strconv.Itoa(hart)+" "+strconv.Itoa(hart)+" "+strconv.Itoa(least[hart])+" "+c.block(3, nil))
		}
	}
	for i, line := range c.Perm(8)[:c.Intn(6)] {
		hart := c.Intn(harts)
		priority := least[hart] + 1 + c.Intn(7-least[hart])
		tasks = append(tasks, "handler h"+strconv.Itoa(i)+" "+strconv.Itoa(hart)+" "+strconv.Itoa(priority)+" "+strconv.Itoa(line)+" "+c.block(2, nil))
	}
	c.Shuffle(len(tasks), func(i, k int) { tasks[i], tasks[k] = tasks[k], tasks[i] })
	return b.String() + strings.Join(tasks, "\n")
}

// place is one below n, or rarely one that is none.
func (c *chance) place(n int) int {
	if n == 0 || c.Intn(40) == 0 {
		return append(farNumbers, n)[c.Intn(len(farNumbers)+1)]
	}
	return c.Intn(n)
}

// choice is one to be done to that source: mostly a step.
func (c *chance) choice(s api.Source) api.Choice {
	switch c.Intn(16) {
	case 0:
		return raise(c.place(8))
	case 1, 2:
		for hart := range s.Works {
			if source.First(s, hart) >= 0 && c.Intn(3) > 0 {
				return take(hart)
			}
		}
		return take(c.place(len(s.Works)))
	case 3:
		return input(c.place(len(s.Devices)), int(c.Uint64()))
	case 4:
		if c.Intn(6) == 0 {
			return api.Choice{Kind: []int{0, 2, 6, -1, 7, math.MaxInt, math.MinInt, 1<<32 + 1}[c.Intn(8)], Hart: c.Intn(2)}
		}
	}
	// What is not named does not matter.
	return api.Choice{Kind: api.ChoiceStep, Hart: c.place(len(s.Works)), Which: c.Intn(3) - 1, N: c.Intn(3) - 1}
}

// next is the deed that a choice does next; false: it does none.
func next(s api.Source, x api.Choice) (api.Deed, bool) {
	if x.Kind != api.ChoiceStep || x.Hart < 0 || x.Hart >= len(s.Works) || len(s.Works[x.Hart]) == 0 {
		return api.Deed{}, false
	}
	w := s.Works[x.Hart][len(s.Works[x.Hart])-1]
	if len(w.Left) == 0 {
		return api.Deed{}, false
	}
	return w.Left[len(w.Left)-1], true
}

// O1 to O6: long pasts by chance, by the words: each kind of choice, each deed, done and not, and each error comes about.
func TestLongPasts(t *testing.T) {
	c := &chance{Rand: rand.New(rand.NewSource(161))}
	type come struct {
		kind int
		err  api.Errno
	}
	type deed struct {
		kind   int
		halted bool
	}
	seen, deeds := map[come]int{}, map[deed]int{}
	accesses, chains := 0, 0
	for range 900 {
		x := played(t, c.program(4, 4, 3))
		first, script, done := x.s, []api.Choice(nil), 0
		for range c.Intn(150) {
			choice := c.choice(x.s)
			before := x.s
			d, ok := next(before, choice)
			err := x.does(choice)
			if ok && err == api.OK {
				halted := slices.ContainsFunc(d.Stmt.Args, func(e api.Expr) bool {
					l := before.Works[choice.Hart]
					_, is := source.Value(before, l[len(l)-1], e)
					return !is
				})
				deeds[deed{d.Stmt.Kind, halted}]++
			}
			script = append(script, choice)
			seen[come{choice.Kind, err}]++
			if err == api.OK {
				done++
				x.asks()
			}
			for _, l := range x.s.Works {
				if len(l) > 2 {
					chains++
				}
			}
		}
		if got, n := source.Run(first, script); n != done || !isSame(got, x.s) {
			t.Fatalf("%v: %d, not %d: %s, not %s", script, n, done, text(got), text(x.s))
		}
		accesses += len(x.s.Trace)
	}
	for _, x := range []come{
		{1, 0}, {1, api.ErrArg}, {1, api.ErrBusy}, {1, api.ErrNone}, {2, api.ErrArg}, {3, 0}, {3, api.ErrArg},
		{4, 0}, {4, api.ErrArg}, {4, api.ErrNone}, {5, 0}, {5, api.ErrArg}, {0, api.ErrArg}, {6, api.ErrArg},
	} {
		if seen[x] < 10 {
			t.Errorf("kind %d, error %d: %d times", x.kind, x.err, seen[x])
		}
	}
	for kind := range 9 {
		hasArgs := kind == api.StmtSet || kind == api.StmtPut || kind == api.StmtStore || kind == api.StmtIf
		if deeds[deed{kind, false}] < 100 || hasArgs && deeds[deed{kind, true}] < 2 {
			t.Errorf("deed %d: %d times, and %d", kind, deeds[deed{kind, false}], deeds[deed{kind, true}])
		}
	}
	if accesses < 1000 || chains < 10 {
		t.Errorf("%d accesses, %d chains", accesses, chains)
	}
}

// O2: expressions by chance, of each work that there is.
func TestValuesByChance(t *testing.T) {
	c := &chance{Rand: rand.New(rand.NewSource(162))}
	there, not := 0, 0
	for range 300 {
		x := played(t, c.program(2, 3, 1))
		for range 40 {
			x.does(c.choice(x.s))
		}
		for hart, l := range x.s.Works {
			for i, w := range l {
				for range 20 {
					all := slices.Clone(c.names)
					e := "1"
					if len(all) > 0 {
						e = c.expr(5, all)
					}
					tree := program(t, "harts 1 task t 0 1 { x = "+e+"; }").Tasks[0].Body[0].Args[0]
					want, is := x.w.value(x.w.jobs[hart][i], tree)
					if n, ok := source.Value(x.s, w, tree); n != want || ok != is {
						t.Fatalf("%s: %d, %v, not %d, %v, of %s", e, n, ok, want, is, state(x.s))
					}
					if is {
						there++
					} else {
						not++
					}
				}
			}
		}
	}
	if there < 1000 || not < 100 {
		t.Errorf("%d and %d", there, not)
	}
}

// halted is what ends a task that is read down as its text says it.
type halted struct{}

// reading is a task that is read down, statement by statement, with nothing between: how many deeds that takes is counted.
type reading struct {
	*world
	job
	deeds int
}

func (r *reading) value(e api.Expr) int {
	n, ok := r.world.value(r.job, e)
	if !ok {
		panic(halted{})
	}
	return n
}

func (r *reading) read(l []api.Stmt) {
	for _, s := range l {
		r.deeds++
		switch s.Kind {
		case api.StmtSet:
			r.locals[s.Name] = r.value(s.Args[0])
		case api.StmtGet:
			r.locals[s.Name], r.devices[s.From] = device.Read(r.devices[s.From], s.N)
			r.trace = append(r.trace, api.Access{Hart: r.task.Hart, Device: rule.Device(r.Program, s.From), Reg: s.N, N: r.locals[s.Name]})
		case api.StmtPut:
			n := r.value(s.Args[0])
			r.devices[s.Name] = device.Write(r.devices[s.Name], s.N, n)
			r.trace = append(r.trace, api.Access{Hart: r.task.Hart, Device: rule.Device(r.Program, s.Name), Reg: s.N, Write: true, N: n})
		case api.StmtStore:
			at, n := r.value(s.Args[0]), r.value(s.Args[1])
			if at < 0 || at >= len(r.words[s.Name]) {
				panic(halted{})
			}
			r.words[s.Name][at] = n
		case api.StmtLock:
			r.readLock(s)
		case api.StmtIf:
			if r.value(s.Args[0]) != 0 {
				r.read(s.Then)
			} else {
				r.read(s.Else)
			}
		case api.StmtRepeat:
			for range s.N {
				r.read(s.Then)
				r.deeds++
			}
		case api.StmtHalt:
			panic(halted{})
		}
	}
}

func (r *reading) readLock(s api.Stmt) {
	// To leave is a deed, too, of what halts as well.
	defer func() { r.deeds++ }()
	r.read(s.Then)
}

// all reads the task down to its end.
func (r *reading) all() {
	defer func() {
		if x := recover(); x != nil && x != (halted{}) {
			panic(x)
		}
	}()
	r.read(r.task.Body)
}

// O1, O5: a task alone does what its text says, read down statement by statement; it takes a step for each deed, and one for its end.
func TestReadDown(t *testing.T) {
	c := &chance{Rand: rand.New(rand.NewSource(163))}
	steps, accesses := 0, 0
	for range 3000 {
		x := played(t, c.program(1, 4, 3))
		r := &reading{world: newWorld(x.w.Program)}
		for i := range x.s.Devices {
			for n := range c.Intn(4) {
				x.all(input(i, n))
				r.choose(input(i, n))
			}
		}
		if len(x.s.Works[0]) == 0 {
			continue
		}
		r.job = r.jobs[0][0]
		r.all()
		script := slices.Repeat([]api.Choice{step(0)}, r.deeds)
		s, done := source.Run(x.s, script)
		r.jobs[0][0].coming = nil
		if want := r.told(); done != r.deeds || state(s) != state(want) {
			t.Fatalf("%d of %d deeds: %s, not %s:\n%s", done, r.deeds, state(s), state(want), text(x.s))
		}
		if s, err := source.Do(s, step(0)); err != api.OK || len(s.Works[0]) != 0 {
			t.Fatalf("%d, %s", err, state(s))
		}
		steps += done
		accesses += len(s.Trace)
	}
	if steps < 10000 || accesses < 1000 {
		t.Errorf("%d steps, %d accesses", steps, accesses)
	}
}

// holdings holds that what a hart holds no other one has to leave, that it has to leave it just once, and that nobody has to leave what nobody holds.
func holdings(t *testing.T, s api.Source) {
	t.Helper()
	for which, owner := range s.Owners {
		for hart, l := range s.Works {
			n := 0
			for _, w := range l {
				for _, d := range w.Left {
					if d.Stmt.Kind == 0 && d.Leave == which {
						n++
					}
				}
			}
			if hart == owner && n != 1 || hart != owner && n != 0 {
				t.Fatalf("resource %d, held by %d: %d times to be left by hart %d, of %s", which, owner, n, hart, state(s))
			}
		}
		if owner < -1 || owner >= len(s.Works) {
			t.Fatalf("held by %d", owner)
		}
	}
}

// weight is how many steps statements take at most.
func weight(l []api.Stmt) int {
	n := 0
	for _, s := range l {
		n++
		switch s.Kind {
		case api.StmtLock:
			n += weight(s.Then) + 1
		case api.StmtIf:
			n += max(weight(s.Then), weight(s.Else))
		case api.StmtRepeat:
			n += s.N * (weight(s.Then) + 1)
		}
	}
	return n
}

// leftOver is how many steps a hart's works take at most.
func leftOver(l []api.Work) int {
	n := 0
	for _, w := range l {
		n++
		for _, d := range w.Left {
			if d.Stmt.Kind == 0 {
				n++
			} else {
				n += weight([]api.Stmt{d.Stmt})
			}
		}
	}
	return n
}

// theorem holds what O7 says of a source, and of all that it may do next.
func theorem(t *testing.T, s api.Source) {
	t.Helper()
	holdings(t, s)
	works, goes := 0, 0
	for hart, l := range s.Works {
		if len(l) > 0 {
			works++
		}
		got, err := source.Do(s, step(hart))
		if err == api.OK {
			goes++
			if now, before := leftOver(got.Works[hart]), leftOver(l); now >= before || now < 0 {
				t.Fatalf("hart %d's step makes %d of %d, of %s", hart, now, before, state(s))
			}
			for other := range s.Works {
				if other != hart && leftOver(got.Works[other]) != leftOver(s.Works[other]) {
					t.Fatalf("hart %d's step, hart %d: %s, of %s", hart, other, state(got), state(s))
				}
			}
			adds(t, s, got)
		}
		got, err = source.Do(s, take(hart))
		if err == api.OK {
			adds(t, s, got)
			begun := got.Works[hart][len(got.Works[hart])-1].Task
			for _, which := range ceiling.Locks(s.Program, begun) {
				if s.Owners[which] == hart {
					t.Fatalf("task %d begins, which locks %d, of %s", begun, which, state(s))
				}
			}
		}
	}
	if works > 0 && goes == 0 {
		t.Fatalf("none may go on: %s", state(s))
	}
}

// adds holds that accesses are only added, at most one.
func adds(t *testing.T, before, behind api.Source) {
	t.Helper()
	n := len(behind.Trace) - len(before.Trace)
	if n < 0 || n > 1 || !slices.Equal(behind.Trace[:len(before.Trace)], before.Trace) {
		t.Fatalf("%+v, of %+v", behind.Trace, before.Trace)
	}
}

// O7: by chance, wherever choices lead.
func TestTheoremByChance(t *testing.T) {
	c := &chance{Rand: rand.New(rand.NewSource(164))}
	held, busy := 0, 0
	for range 600 {
		s, err := source.Start(program(t, c.program(4, 4, 2)))
		if err != api.OK {
			t.Fatal(err)
		}
		for range 100 {
			theorem(t, s)
			got, err := source.Do(s, c.choice(s))
			if err == api.ErrBusy {
				busy++
			}
			if err != api.OK {
				continue
			}
			adds(t, s, got)
			s = got
			if slices.Max(append(s.Owners, -1)) >= 0 {
				held++
			}
		}
	}
	if held < 3000 || busy < 50 {
		t.Errorf("%d held, %d busy", held, busy)
	}
}

// O7: each work ends, if harts that may go on go on, whichever is chosen.
func TestAllEnd(t *testing.T) {
	c := &chance{Rand: rand.New(rand.NewSource(165))}
	for range 600 {
		s, err := source.Start(program(t, c.program(4, 4, 2)))
		if err != api.OK {
			t.Fatal(err)
		}
		for range 30 {
			if got, err := source.Do(s, c.choice(s)); err == api.OK {
				s = got
			}
		}
		most := 0
		for _, l := range s.Works {
			most += leftOver(l)
		}
		for most >= 0 && slices.ContainsFunc(s.Works, func(l []api.Work) bool { return len(l) > 0 }) {
			goes := false
			for _, hart := range c.Perm(len(s.Works)) {
				if got, err := source.Do(s, step(hart)); err == api.OK {
					s, goes = got, true
					break
				}
			}
			if most--; !goes || most < 0 {
				t.Fatalf("%v, %d: %s", goes, most, state(s))
			}
		}
		if slices.Max(append(s.Owners, -1)) != -1 {
			t.Fatalf("still held: %v", s.Owners)
		}
	}
}

// everywhere calls f of each source that these choices lead to, whatever is chosen when, and is how many there are.
func everywhere(t *testing.T, s api.Source, choices []api.Choice, f func(api.Source)) int {
	t.Helper()
	come := map[string]struct{}{state(s): {}}
	todo := []api.Source{s}
	for len(todo) > 0 {
		s, todo = todo[len(todo)-1], todo[:len(todo)-1]
		f(s)
		for _, c := range choices {
			got, err := source.Do(s, c)
			if err != api.OK {
				continue
			}
			mark := state(got)
			if _, found := come[mark]; !found {
				come[mark] = struct{}{}
				todo = append(todo, got)
			}
		}
		if len(come) > 300000 {
			t.Fatal("too many")
		}
	}
	return len(come)
}

// O7: of small programs, wherever any choices lead: with handlers, and harts that lock what others lock.
func TestTheoremEverywhere(t *testing.T) {
	for _, text := range []string{
		"harts 2 resource a 1 resource b 1 task t 0 1 { lock a { lock b { x = 1; } } lock b { } } task s 1 1 { lock b { } lock a { lock b { halt; } } } handler h 0 5 0 { lock a { } } handler i 1 3 1 { lock b { } }",
		"harts 3 resource a 1 resource b 1 resource c 1 task t 0 1 { lock a { lock b { } } } task s 1 1 { lock b { lock c { } } } task u 2 1 { lock a { lock c { } } }",
		"harts 1 resource a 1 resource b 2 task t 0 1 { lock b { b[0] = 1; } x = 1; } handler h 0 4 0 { lock a { lock b { b[2] = 1; } } } handler i 0 6 1 { lock b { } } handler j 0 7 2 { y = 1; }",
		"harts 2 resource a 1 task t 0 1 { repeat 2 { lock a { a[0] = a[0] + 1; } } } handler h 1 2 0 { lock a { if (a[0]) { halt; } } } handler i 1 2 1 { lock a { } }",
	} {
		x := played(t, text)
		choices := []api.Choice{}
		for hart := range x.w.Harts {
			choices = append(choices, step(hart), take(hart))
		}
		for _, task := range x.w.Tasks {
			if task.Handler {
				choices = append(choices, raise(task.Line))
			}
		}
		if n := everywhere(t, x.s, choices, func(s api.Source) { theorem(t, s) }); n < 50 {
			t.Errorf("%d: %s", n, text)
		}
	}
}

// The document's third example: whatever is chosen, what is written are 1 to 10, in this order; and 1 to 6 of three harts and a handler.
func TestCounts(t *testing.T) {
	body := "{ lock r { r[0] = r[0] + 1; d.0 = r[0]; } }"
	for text, most := range map[string]int{
		"harts 2 device d uart resource r 1 task t 0 1 { repeat 5 " + body + " } task s 1 1 { repeat 5 " + body + " }":                                                 10,
		"harts 3 device d uart resource r 1 task t 0 1 { repeat 2 " + body + " } task s 1 1 { repeat 2 " + body + " } task u 2 1 " + body + " handler h 0 5 0 " + body: 6,
	} {
		x := played(t, text)
		choices := []api.Choice{step(0), step(1), step(2)}
		if most == 6 {
			// It is raised once.
			x.all(raise(0))
			choices = append(choices, take(0))
		}
		whole := 0
		everywhere(t, x.s, choices, func(s api.Source) {
			for i, a := range s.Trace {
				if a.N != i+1 || !a.Write || a.Device != 0 || a.Reg != 0 {
					t.Fatalf("access %d: %+v", i, a)
				}
			}
			if len(s.Trace) == most {
				whole++
			}
		})
		if whole == 0 {
			t.Errorf("never %d: %s", most, text)
		}
	}
}

// The document's fifth example: while the task holds r, the handler does not begin, though nobody else holds it.
func TestKeptOut(t *testing.T) {
	x := played(t, "harts 1 resource r 1 task t 0 1 { lock r { x = 1; } y = 1; } handler h 0 5 0 { lock r { } }")
	x.all(raise(0))
	y := &play{t, x.s, x.w.copied()}
	y.all(take(0))
	x.all(step(0))
	x.fails(take(0), api.ErrNone)
	x.all(step(0))
	x.fails(take(0), api.ErrNone)
	x.all(step(0), take(0), step(0), step(0), step(0), step(0), step(0))
	x.fails(step(0), api.ErrNone)
}

// O7, P3: handlers that share nothing with a task change nothing of what that does.
func TestApart(t *testing.T) {
	c := &chance{Rand: rand.New(rand.NewSource(166))}
	begun := 0
	for range 400 {
		body := c.program(1, 3, 2)
		if !strings.Contains(body, "task") || strings.Contains(body, "handler") {
			continue
		}
		body = strings.Replace(body, "task", "resource q 1\ntask", 1)
		plain := played(t, body)
		with := played(t, body+" handler h 0 6 0 { lock q { q[0] = q[0] + 1; x = q[0]; } } handler i 0 7 1 { y = y - 1; halt; }")
		plain.ends(0)
		for range 10000 {
			if len(with.s.Works[0]) == 0 {
				break
			}
			choice := []api.Choice{step(0), step(0), step(0), raise(0), raise(1), take(0)}[c.Intn(6)]
			if with.does(choice) == api.OK && choice.Kind == api.ChoiceTake {
				begun++
			}
		}
		if !slices.Equal(plain.s.Trace, with.s.Trace) || !slices.EqualFunc(plain.s.Words[:len(plain.s.Words)-1], with.s.Words[:len(plain.s.Words)-1], slices.Equal) || len(with.s.Works[0]) != 0 {
			t.Fatalf("%s, not %s", state(with.s), state(plain.s))
		}
	}
	if begun < 100 {
		t.Errorf("%d handlers", begun)
	}
}
