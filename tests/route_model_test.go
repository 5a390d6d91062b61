package tests

import (
	"slices"

	"loop.example/g00031/impl"
)

// wireTold is a wire of a chip: where it leaves, its direction and track, and where it ends.
type wireTold struct{ x, y, dir, track, toX, toY int }

// wiresTold has, by their numbers, the wires that are there: from each tile to each next one, in from the left, out at the right.
func wiresTold(c impl.Chip) map[int]wireTold {
	wires := map[int]wireTold{}
	for track := range c.Tracks {
		put := func(x, y, dir, toX, toY int) {
			wires[((y*(c.Wide+1)+x+1)*4+dir)*c.Tracks+track] = wireTold{x, y, dir, track, toX, toY}
		}
		for y := range c.High {
			put(-1, y, 0, 0, y)
			for x := range c.Wide - 1 {
				put(x, y, 0, x+1, y)
				put(x+1, y, 2, x, y)
			}
			put(c.Wide-1, y, 0, c.Wide, y)
		}
		for y := range c.High - 1 {
			for x := range c.Wide {
				put(x, y, 1, x, y+1)
				put(x, y+1, 3, x, y)
			}
		}
	}
	return wires
}

// goalTold is where a wire of a net must end.
type goalTold struct{ x, y int }

// goalsTold are the ends of a source in order.
func goalsTold(p impl.Packed, c impl.Chip, tiles []int, source int) []goalTold {
	var goals []goalTold
	for tile := range c.Wide * c.High {
		block := slices.Index(tiles, tile)
		if block >= 0 && block+len(p.Ins) != source && slices.Contains(p.Blocks[block].In, source) {
			goals = append(goals, goalTold{tile % c.Wide, tile / c.Wide})
		}
	}
	for y := range c.High {
		for j, port := range slices.Concat(p.Outs, p.Checks) {
			if j%c.High == y && port.Src == source {
				goals = append(goals, goalTold{c.Wide, y})
				break
			}
		}
	}
	return goals
}

// sourceTold is where the wires that come from a source itself leave.
func sourceTold(p impl.Packed, c impl.Chip, tiles []int, source int) goalTold {
	if source < len(p.Ins) {
		return goalTold{-1, source % c.High}
	}
	tile := tiles[source-len(p.Ins)]
	return goalTold{tile % c.Wide, tile / c.Wide}
}

// routeTold says what RouteOK must answer.
func routeTold(p impl.Packed, c impl.Chip, tiles []int, nets [][]impl.Hop) bool {
	if !placeTold(p, c, tiles) || len(nets) != len(p.Ins)+len(p.Blocks) {
		return false
	}
	there := map[impl.Hop]wireTold{}
	for _, w := range wiresTold(c) {
		there[impl.Hop{X: w.x, Y: w.y, Dir: w.dir, Track: w.track}] = w
	}
	had := map[wireTold]bool{}
	for source, net := range nets {
		var wires []wireTold
		for i, h := range net {
			w, ok := there[impl.Hop{X: h.X, Y: h.Y, Dir: h.Dir, Track: h.Track}]
			if !ok || had[w] || h.From < -1 || h.From >= i {
				return false
			}
			if h.From == -1 && sourceTold(p, c, tiles, source) != (goalTold{w.x, w.y}) {
				return false
			}
			if h.From >= 0 {
				ahead := wires[h.From]
				if ahead.toX != w.x || ahead.toY != w.y || ahead.track != w.track {
					return false
				}
			}
			had[w] = true
			wires = append(wires, w)
		}
		for _, goal := range goalsTold(p, c, tiles, source) {
			if !slices.ContainsFunc(wires, func(w wireTold) bool { return w.toX == goal.x && w.toY == goal.y }) {
				return false
			}
		}
	}
	return true
}

// routeStory is what there was to a routing: in which round it ended, and how often what was to be decided.
type routeStory struct {
	rounds int
	counts map[string]int
}

// routeModel looks for ways by going over all wires again and again, as long as one becomes cheaper.
type routeModel struct {
	wires   []int // those that are there, rising
	of      []wireTold
	ahead   [][]int // by wire, from which it can go on, rising
	past    []int
	nets    []int // by wire, how many have it
	round   int
	story   routeStory
	source  goalTold
	net     []int
	isOwn   []bool
	nethops []impl.Hop
}

func newRouteModel(c impl.Chip) *routeModel {
	told := wiresTold(c)
	m := &routeModel{story: routeStory{counts: map[string]int{}}}
	behind := map[[3]int][]int{}
	for number := range c.High * (c.Wide + 1) * 4 * c.Tracks {
		w, ok := told[number]
		m.of = append(m.of, w)
		if ok {
			m.wires = append(m.wires, number)
			behind[[3]int{w.toX, w.toY, w.track}] = append(behind[[3]int{w.toX, w.toY, w.track}], number)
		}
	}
	for _, w := range m.of {
		m.ahead = append(m.ahead, behind[[3]int{w.x, w.y, w.track}])
	}
	m.past = make([]int, len(m.of))
	return m
}

func (m *routeModel) price(number int) int {
	return (1 + m.past[number]) * (1 + m.round*m.nets[number])
}

// begins says from where a wire can come if it is the first one of a way.
func (m *routeModel) begins(number int) (from int, can bool) {
	w := m.of[number]
	if m.source == (goalTold{w.x, w.y}) {
		return -1, true
	}
	for i, other := range m.net {
		if slices.Contains(m.ahead[number], other) {
			return i, true
		}
	}
	return 0, false
}

// cheapest has of each wire the price of the cheapest way to it, 0 if there is none.
func (m *routeModel) cheapest() []int {
	best := make([]int, len(m.of))
	for _, number := range m.wires {
		if _, can := m.begins(number); can && !m.isOwn[number] {
			best[number] = m.price(number)
		}
	}
	for again := true; again; {
		again = false
		for _, number := range m.wires {
			if m.isOwn[number] {
				continue
			}
			for _, ahead := range m.ahead[number] {
				if of := best[ahead] + m.price(number); best[ahead] > 0 && (best[number] == 0 || of < best[number]) {
					best[number], again = of, true
				}
			}
		}
	}
	return best
}

// last is the wire that a way to an end has last, false where there is none.
func (m *routeModel) last(goal goalTold, best []int) (int, bool) {
	var right []int
	for _, number := range m.wires {
		if best[number] > 0 && m.of[number].toX == goal.x && m.of[number].toY == goal.y {
			right = append(right, number)
		}
	}
	if len(right) == 0 {
		return 0, false
	}
	least := slices.MinFunc(right, func(a, b int) int { return best[a] - best[b] })
	m.story.counts["a dearer right wire of a lesser number"] += numberIf(least != right[0])
	for _, number := range right {
		m.story.counts["right wires of one price"] += numberIf(number > least && best[number] == best[least])
	}
	return least, true
}

// way puts the wires of the cheapest way to an end behind the net.
func (m *routeModel) way(goal goalTold) bool {
	best := m.cheapest()
	number, ok := m.last(goal, best)
	if !ok {
		return false
	}
	var way []int
	for best[number] != m.price(number) {
		way = append(way, number)
		of := best[number] - m.price(number)
		right := slices.DeleteFunc(slices.Clone(m.ahead[number]), func(ahead int) bool { return best[ahead] != of })
		m.story.counts["wires ahead of one price"] += numberIf(len(right) > 1)
		number = right[0]
	}
	way = append(way, number)
	from, _ := m.begins(number)
	if len(m.net) > 0 {
		m.story.counts[[]string{"a further way from the net", "a further way from the source"}[numberIf(from == -1)]]++
	}
	slices.Reverse(way)
	for _, number := range way {
		w := m.of[number]
		m.net = append(m.net, number)
		m.isOwn[number] = true
		m.nethops = append(m.nethops, impl.Hop{X: w.x, Y: w.y, Dir: w.dir, Track: w.track, From: from})
		from = len(m.net) - 1
	}
	return true
}

// routingTold says what Route must answer, and what there was to it.
func routingTold(p impl.Packed, c impl.Chip, tiles []int) ([][]impl.Hop, int, routeStory) {
	if !placeTold(p, c, tiles) {
		return nil, impl.ErrBad, routeStory{}
	}
	m := newRouteModel(c)
	for m.round = 1; m.round <= 24; m.round++ {
		var nets [][]impl.Hop
		m.nets = make([]int, len(m.of))
		m.story.rounds = m.round
		for source := range len(p.Ins) + len(p.Blocks) {
			m.source, m.net, m.isOwn, m.nethops = sourceTold(p, c, tiles, source), nil, make([]bool, len(m.of)), nil
			for _, goal := range goalsTold(p, c, tiles, source) {
				if slices.ContainsFunc(m.net, func(number int) bool { return m.of[number].toX == goal.x && m.of[number].toY == goal.y }) {
					m.story.counts["reached on the way"]++
				} else if !m.way(goal) {
					return nil, impl.ErrFit, m.story
				}
			}
			for _, number := range m.net {
				m.nets[number]++
			}
			nets = append(nets, m.nethops)
		}
		done := true
		for number, having := range m.nets {
			if having > 1 {
				done = false
				m.past[number] += having - 1
			}
			m.story.counts["three nets in a wire"] += numberIf(having > 2)
		}
		if done {
			return nets, impl.OK, m.story
		}
	}
	return nil, impl.ErrFit, m.story
}
