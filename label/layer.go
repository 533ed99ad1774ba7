package label

import (
	"slices"

	"headstock/api"
)

const wordBytes = 4

// places are where items begin, in bytes, and, as the last one, where they end.
type places []int

// put lays so many words behind all that is there.
func (p *places) put(words int) { *p = append(*p, p.end()+wordBytes*words) }

func (p places) end() int { return p[len(p)-1] }

// apart is by how much an item's place is behind another one's.
func (p places) apart(from, to int) int { return p[to] - p[from] }

// layer lays items behind one another, each with its size in words; to has of each that leads to a label the label's item.
type layer struct {
	places
	items []api.Item
	sizes []int
	to    []int
}

// lay are items where they are in the end, when all branches reach.
func lay(l []api.Item) (layer, api.Errno) {
	if len(l) > api.MaxItems {
		return layer{}, api.ErrLong
	}
	for _, x := range l {
		if !Right(x) {
			return layer{}, api.ErrArg
		}
	}
	to, ok := targets(l)
	if !ok {
		return layer{}, api.ErrTarget
	}
	y := layer{items: l, to: to}
	for _, x := range l {
		y.sizes = append(y.sizes, sizeOf(x))
	}
	y.reckon()
	y.lengthen()
	y.reckon()
	if y.end() > wordBytes*api.MaxWords {
		return layer{}, api.ErrLong
	}
	return y, api.OK
}

// targets are the labels' items to which items lead; false: a label is there twice, or not at all.
func targets(l []api.Item) ([]int, bool) {
	at := map[string]int{}
	for i, x := range l {
		if x.Kind != api.ItemLabel {
			continue
		}
		if _, twice := at[x.Name]; twice {
			return nil, false
		}
		at[x.Name] = i
	}
	to := make([]int, len(l))
	for i, x := range l {
		if x.Kind != api.ItemTo {
			continue
		}
		k, ok := at[x.Name]
		if !ok {
			return nil, false
		}
		to[i] = k
	}
	return to, true
}

// reckon lays all items anew, by their sizes.
func (y *layer) reckon() {
	y.places = make(places, 1, len(y.items)+1)
	for _, words := range y.sizes {
		y.put(words)
	}
}

// instrs are the instructions that stand in an item's place.
func (y *layer) instrs(i int) []api.Instr {
	x := y.items[i]
	switch x.Kind {
	case api.ItemIns:
		return []api.Instr{x.In}
	case api.ItemTo:
		return y.leading(i)
	case api.ItemNum:
		return Number(x.In.D, x.N)
	case api.ItemNops:
		return slices.Repeat([]api.Instr{{Op: api.InAddi}}, x.N)
	}
	return nil
}

// leading are the instructions that lead from an item to its label.
func (y *layer) leading(i int) []api.Instr {
	in := y.items[i].In
	by := y.apart(i, y.to[i])
	if y.sizes[i] == 1 {
		in.N = by
		return []api.Instr{in}
	}
	// The opposite passes over the jump, which stands one word behind the item's place.
	in.Op, in.N = opposite(in.Op), 2*wordBytes
	return []api.Instr{in, {Op: api.InJal, N: by - wordBytes}}
}
