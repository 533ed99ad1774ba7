package reader_test

import (
	"maps"
	"slices"
	"strings"
	"testing"

	"headstock/api"
	"headstock/token"
)

// The chapter's grammar, written out here by itself, and what it says of tokens: a recognizer that keeps all that may be going on at once, so that it knows after each token whether what was ahead is a beginning.

// grammar has what each thing is, its ways on lines of their own; a word that has no line is a token.
const grammar = `
program   harts NUMBER devices resources tasks END
devices
devices   devices aDevice
resources
resources resources aResource
tasks
tasks     tasks aTask
aDevice   device NAME kind
kind      uart
kind      timer
kind      gpio
aResource resource NAME NUMBER
aTask     task NAME NUMBER NUMBER block
aTask     handler NAME NUMBER NUMBER NUMBER block
block     { stmts }
stmts
stmts     stmts stmt
stmt      NAME = expr ;
stmt      NAME = NAME . NUMBER ;
stmt      NAME . NUMBER = expr ;
stmt      NAME [ expr ] = expr ;
stmt      lock NAME block
stmt      if ( expr ) block
stmt      if ( expr ) block else block
stmt      repeat NUMBER block
stmt      halt ;
expr      part
expr      expr two part
part      NUMBER
part      NAME
part      NAME [ expr ]
part      ( expr )
part      one part
one       -
one       !
one       ~
two       |
two       ^
two       &
two       ==
two       !=
two       <
two       <.
two       <<
two       >>
two       +
two       -
two       *
two       /
two       %
alone     expr END
`

// classes are all tokens that there are, as the grammar has them.
var classes = strings.Fields("harts device uart timer gpio resource task handler lock if else repeat halt == != << >> <. + - * / % & | ^ < = ! ~ ( ) { } [ ] ; . NAME NUMBER END")

// rules has the ways to be each thing.
func rules() map[string][][]string {
	all := map[string][][]string{}
	for _, line := range strings.Split(strings.TrimSpace(grammar), "\n") {
		f := strings.Fields(line)
		all[f[0]] = append(all[f[0]], f[1:])
	}
	return all
}

// item is a way to be a thing, so far gone, which began behind so many tokens.
type item struct {
	thing      string
	way, at    int
	beganAfter int
}

// seer is what may be going on behind each token so far.
type seer struct {
	rules map[string][][]string
	sets  []map[item]bool
}

func newSeer(of map[string][][]string, thing string) *seer {
	s := &seer{rules: of, sets: []map[item]bool{{}}}
	for way := range of[thing] {
		s.sets[0][item{thing, way, 0, 0}] = true
	}
	s.close()
	return s
}

// waits is what an item waits for; nothing: it is done.
func (s *seer) waits(x item) string {
	if of := s.rules[x.thing][x.way]; x.at < len(of) {
		return of[x.at]
	}
	return ""
}

// close adds all that follows from what is going on.
func (s *seer) close() {
	last := len(s.sets) - 1
	set := s.sets[last]
	work := slices.Collect(maps.Keys(set))
	add := func(x item) {
		if !set[x] {
			set[x] = true
			work = append(work, x)
		}
	}
	for len(work) > 0 {
		x := work[len(work)-1]
		work = work[:len(work)-1]
		wait := s.waits(x)
		if wait == "" {
			for y := range s.sets[x.beganAfter] {
				if s.waits(y) == x.thing {
					y.at++
					add(y)
				}
			}
			continue
		}
		for way, of := range s.rules[wait] {
			add(item{wait, way, 0, last})
			if len(of) == 0 {
				x.at++
				add(x)
				x.at--
			}
		}
	}
}

// takes goes on with a token, if it can stand here.
func (s *seer) takes(class string) bool {
	set := map[item]bool{}
	for x := range s.sets[len(s.sets)-1] {
		if s.waits(x) == class {
			x.at++
			set[x] = true
		}
	}
	if len(set) == 0 {
		return false
	}
	s.sets = append(s.sets, set)
	s.close()
	return true
}

// back forgets all but so many tokens.
func (s *seer) back(n int) { s.sets = s.sets[:n+1] }

func classOf(x api.Token) string {
	switch x.Kind {
	case api.TokName:
		return "NAME"
	case api.TokNumber:
		return "NUMBER"
	case api.TokEnd:
		return "END"
	}
	return x.Text
}

func classesOf(l []api.Token) []string {
	var of []string
	for _, x := range l {
		of = append(of, classOf(x))
	}
	return of
}

// firstWrong is the place of the first token that can't stand where it does; below 0: there is none.
func firstWrong(of map[string][][]string, thing string, l []string) int {
	s := newSeer(of, thing)
	for i, class := range l {
		if !s.takes(class) {
			return i
		}
	}
	return -1
}

// deepestOf is how deep parts and blocks stand, in tokens that can stand where they do.
func deepestOf(l []string, first int) int {
	blocks, most := first, first
	// base is how deep a part behind an operator of two is, now how deep one that begins here is; outer are those to come back to.
	base, now := first, first
	var outer []int
	count := func(n int) { now, most = n, max(most, n) }
	for i, class := range l {
		ahead := ""
		if i > 0 {
			ahead = l[i-1]
		}
		isPart := slices.Contains([]string{"NAME", "NUMBER", ")", "]"}, ahead)
		switch {
		case class == "{":
			blocks++
			base = blocks
			count(blocks)
		case class == "}":
			blocks--
			base, now = blocks, blocks
		case class == "(" && ahead == "if", class == "[" && i > 1 && strings.Contains("{ } ;", l[i-2]):
			outer = append(outer, blocks)
			base = blocks + 1
			count(base)
		case class == "(" || class == "[":
			outer = append(outer, base)
			base = now + 1
			count(base)
		case class == ")" || class == "]":
			base, outer = outer[len(outer)-1], outer[:len(outer)-1]
		case class == "=":
			base = blocks
			count(blocks)
		case strings.Contains("- ! ~", class) && !isPart:
			count(now + 1)
		case slices.Contains(strings.Fields("| ^ & == != < <. << >> + - * / %"), class):
			count(base)
		}
	}
	return most
}

// The recognizer itself, of what is and of what is none.
func TestGrammar(t *testing.T) {
	of := rules()
	for text, want := range map[string]int{
		"harts 1": -1, "harts 1 device d uart resource r 1 task t 0 1 { x = 1; }": -1, "": 0, "harts": 1, "harts 1 1": 2, "harts x": 1, "task t 0 1 { }": 0,
		"harts 1 resource r 1 device d uart": 5, "harts 1 task t 0 1 { } resource r 1": 8, "harts 1 device d d": 4, "harts 1 device uart uart": 3,
		"harts 1 task t 0 1 { x = 1 }": 10, "harts 1 task t 0 1 { x = y.0; }": -1, "harts 1 task t 0 1 { x = y.0 + 1; }": 12, "harts 1 task t 0 1 { x = (y.0); }": 11,
		"harts 1 task t 0 1 { x = y.z; }": 11, "harts 1 task t 0 1 { if (1) { } else { } else { } }": 16, "harts 1 handler t 0 1 { }": 6, "harts 1 task t 0 1 1 { }": 6,
		"harts 1 task t 0 1 {": 7, "harts 1 task t 0 1 { lock": 8, "harts 1 task t 0 1 { r[-x[1]] = ~(!2 - -3) * r[4]; halt; repeat 3 { } }": -1,
	} {
		l, _, _ := token.Scan(text)
		if got := firstWrong(of, "program", classesOf(l)); got != want {
			t.Errorf("%q: %d, not %d", text, got, want)
		}
	}
	for text, want := range map[string]int{
		"1": 1, "1 + 2": 1, "-1": 2, "--1 + 2": 3, "1 + --1": 3, "(1)": 2, "-(1)": 3, "(-1)": 3, "r[1]": 2, "-r[1]": 3, "(1) + (2)": 2, "-1 - -1": 2, "((1) + 2) - (3)": 3, "-(1) * (2)": 3, "": 1, "-": 2, "(": 2, "r[": 2, "1 +": 1, "1 + -": 2, "-r[(1) + -2] - 1": 4,
	} {
		l, _, _ := token.Scan(text)
		if got := deepestOf(classesOf(l[:len(l)-1]), 1); got != want {
			t.Errorf("%q: %d deep, not %d", text, got, want)
		}
	}
	for text, want := range map[string]int{
		"harts 1": 0, "harts 1 task t 0 1": 0, "harts 1 task t 0 1 {": 1, "harts 1 task t 0 1 { x = 1; }": 1, "harts 1 task t 0 1 { x = (1); }": 2, "harts 1 task t 0 1 { if (1) { } }": 2, "harts 1 task t 0 1 { if (1)": 2, "harts 1 task t 0 1 { if ((1))": 3, "harts 1 task t 0 1 { if (1) { } x = -1; }": 2, "harts 1 task t 0 1 { if": 1, "harts 1 task t 0 1 { if (-1 + -1": 3,
		"harts 1 task t 0 1 { r[1] = 1; }": 2, "harts 1 task t 0 1 { r": 1, "harts 1 task t 0 1 { r[": 2, "harts 1 task t 0 1 { r[(1)] = 1; }": 3, "harts 1 task t 0 1 { r[1] = -1; }": 2, "harts 1 task t 0 1 { lock r { x = r[1]; } }": 3, "harts 1 task t 0 1 { lock r { r[1] = 1; } x = -1; }": 3, "harts 1 task t 0 1 { lock r { } lock r { } }": 2,
	} {
		l, _, _ := token.Scan(text)
		if got := deepestOf(classesOf(l[:len(l)-1]), 0); got != want {
			t.Errorf("%q: %d deep, not %d", text, got, want)
		}
	}
}
