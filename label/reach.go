package label

import "headstock/api"

// How far a short branch leads, in bytes.
const (
	reachBack  = 4096
	reachAhead = 4094
)

// branch is a short branch's item, its label's, and how many words may still come between the two.
type branch struct{ at, to, room int }

// spans tells whether an item stands between a branch and its label.
func (b branch) spans(item int) bool {
	return b.at < item && item < b.to || b.to < item && item < b.at
}

// branches are all branches, in their order, as they are by the places at hand.
func (y *layer) branches() []branch {
	var l []branch
	for i, x := range y.items {
		if x.Kind != api.ItemTo || !isBranch(x.In.Op) {
			continue
		}
		room := reachBack + y.apart(i, y.to[i])
		if y.to[i] > i {
			room = reachAhead - y.apart(i, y.to[i])
		}
		// A shift cuts downwards: a room that lacks less than a word is none.
		l = append(l, branch{i, y.to[i], room >> 2})
	}
	return l
}

// lengthen makes long all branches that do not reach. A branch that becomes long only takes room from others: so those that
// are long in the end are the same, whether they become so one by one, in any order, or all at once, round by round.
func (y *layer) lengthen() {
	l := y.branches()
	var far []int
	for i, b := range l {
		if b.room < 0 {
			far = append(far, i)
		}
	}
	for len(far) > 0 {
		i := far[len(far)-1]
		far = far[:len(far)-1]
		y.sizes[l[i].at] = 2
		far = append(far, narrow(l, i)...)
	}
}

// narrow takes a word's room from all branches that span the one that became long, and tells which of them reach no more.
func narrow(l []branch, long int) []int {
	// Each branch between has a word: one that still reaches has no more of them in its span.
	const near = reachBack / wordBytes
	var far []int
	for i := max(0, long-near); i < len(l) && i <= long+near; i++ {
		if !l[i].spans(l[long].at) {
			continue
		}
		l[i].room--
		if l[i].room == -1 {
			far = append(far, i)
		}
	}
	return far
}
