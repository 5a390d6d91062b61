package tests

import (
	"fmt"
	"slices"
	"strings"
	"testing"

	"loop.example/g00031/impl"
)

// timingCall is what Timing is given.
type timingCall struct {
	p       impl.Packed
	c       impl.Chip
	tiles   []int
	nets    [][]impl.Hop
	d       impl.Delays
	periods []int
	excepts []impl.Except
}

func (a timingCall) answer() (impl.Report, int) {
	return impl.Timing(a.p, a.c, a.tiles, a.nets, a.d, a.periods, a.excepts)
}

func (a timingCall) String() string {
	return fmt.Sprintf("%s on %v: %v: %s: %v, %v, %s", packWritten(a.p), a.c, a.tiles, netsWritten(a.nets), a.d, a.periods, exceptsWritten(a.excepts))
}

// exceptsRead reads excepts: From, To and Cycles of each, as -1>2*3.
func exceptsRead(text string) []impl.Except {
	var excepts []impl.Except
	for word := range strings.FieldsSeq(text) {
		from, rest, _ := strings.Cut(word, ">")
		to, cycles, _ := strings.Cut(rest, "*")
		excepts = append(excepts, impl.Except{From: numberRead(from), To: numberRead(to), Cycles: numberRead(cycles)})
	}
	return excepts
}

func exceptsWritten(excepts []impl.Except) string {
	var words []string
	for _, e := range excepts {
		words = append(words, fmt.Sprint(e.From, ">", e.To, "*", e.Cycles))
	}
	return strings.Join(words, " ")
}

// reportWritten writes a report: the paths, those of two clocks and Worst, with `|` between; a path is From, To, Most, Least and Slack, as 0>3:12,9,88.
func reportWritten(r impl.Report) string {
	paths := func(list []impl.Path) string {
		var words []string
		for _, p := range list {
			words = append(words, fmt.Sprint(p.From, ">", p.To, ":", p.Most, ",", p.Least, ",", p.Slack))
		}
		return strings.Join(words, " ")
	}
	return strings.Join(strings.Fields(fmt.Sprint(paths(r.Paths), " | ", paths(r.Cross), " | ", r.Worst)), " ")
}

// digitDelays are delays of which each sum tells how often each is in it: wires in the lowest digit, tables in the next one; above these 1 a pad, 2 a register's out, 4 its setup.
var digitDelays = impl.Delays{Lut: 10, Wire: 1, Pad: 100, Out: 200, Setup: 400}

// theTiming has inputs a (0) and b (1), registers r (2) of clock c and s (3) of clock d and a table (4); r takes a, s takes r and the table, the table b and r; the table goes out (3), s is checked (4). The net of r branches behind no wire, that of the table at once.
func theTiming() timingCall {
	return timingCall{
		p:     packRead("a b | c d | r=1<0=2@0 s=0<2,4=6@1 1,2=8 | y:4 | k:3"),
		c:     trackChip(3, 1, 3),
		tiles: []int{0, 1, 2},
		nets:  netsRead("-1,0,0,0 | -1,0,0,1 0,0,0,1<0 1,0,0,1<1 | 0,0,0,0 1,0,0,0<0 | 1,0,0,2 2,0,0,2<0 | 2,0,2,0 2,0,0,0"),
		d:     digitDelays, periods: []int{1000, 2000},
	}
}

// theReport is what Timing answers of that.
const theReport = "0>0:511,511,489 1>1:524,524,1476 2>3:313,313,687 3>4:302,302,1698 | 2>1:623,611,0 | 489"

// with is the call with another thing in it.
func (a timingCall) with(change func(a *timingCall)) timingCall {
	change(&a)
	return a
}

// wantsTiming holds Timing against an answer by hand.
func wantsTiming(t *testing.T, a timingCall, code int, want string) {
	t.Helper()
	if code != impl.OK {
		want = "| | 0"
	}
	got := holdTiming(t, a, code)
	if reportWritten(got) != want {
		t.Errorf("%v: %s, want %s", a, reportWritten(got), want)
	}
}

// delay is often none, and now and then the greatest one.
func (d *draughtsman) delay() int {
	return []int{0, 1, 2, d.below(10), d.below(100), d.below(1001), 1000}[d.below(7)]
}

func (d *draughtsman) delays() impl.Delays {
	return impl.Delays{Lut: d.delay(), Wire: d.delay(), Pad: d.delay(), Out: d.delay(), Setup: d.delay()}
}

// period is often about what a path takes.
func (d *draughtsman) period() int {
	return []int{1, 1 + d.below(30), 1 + d.below(300), 1 + d.below(3000), 1 + d.below(1000000), 1000000}[d.below(6)]
}

// beginningsOf and endsOf are all that excepts may name.
func beginningsOf(p impl.Packed) []int {
	var all []int
	for source := range len(p.Ins) + len(p.Blocks) {
		if source < len(p.Ins) || p.Blocks[source-len(p.Ins)].Reg {
			all = append(all, source)
		}
	}
	return all
}

func endsOf(p impl.Packed) []int {
	var all []int
	for number := range len(p.Blocks) + len(p.Outs) + len(p.Checks) {
		if number >= len(p.Blocks) || p.Blocks[number].Reg {
			all = append(all, number)
		}
	}
	return all
}

func (d *draughtsman) excepts(p impl.Packed) []impl.Except {
	froms, tos := append(beginningsOf(p), -1), append(endsOf(p), -1)
	var excepts []impl.Except
	for range d.below(7) {
		e := impl.Except{From: froms[d.below(len(froms))], To: tos[d.below(len(tos))], Cycles: []int{0, 1, 2, d.below(101), 100}[d.below(5)]}
		if d.below(3) == 0 {
			e.From = -1
		}
		if d.below(3) == 0 {
			e.To = -1
		}
		excepts = append(excepts, e)
	}
	return excepts
}

// toTime draws what Timing is given; the nets are those of Route, or wild ones.
func (d *draughtsman) toTime() timingCall {
	for {
		var a timingCall
		a.p, a.c, a.tiles = d.toRoute()
		routed := false
		if d.below(2) == 0 {
			nets, code := impl.Route(a.p, a.c, a.tiles)
			a.nets, routed = nets, code == impl.OK
		} else {
			a.c.Tracks = max(a.c.Tracks, 4)
			a.nets, routed = d.wildNets(a.p, a.c, a.tiles)
		}
		if routed {
			a.d, a.excepts = d.delays(), d.excepts(a.p)
			for range a.p.Clocks {
				a.periods = append(a.periods, d.period())
			}
			return a
		}
	}
}

// wilds are nets that grow: wires that lead nowhere, ends that are come to over several wires, by ways that are not the shortest.
type wilds struct {
	*draughtsman
	wires   map[int]wireTold
	leaving map[[3]int][]int // by x, y and track
	tracks  int
	taken   map[int]bool
	own     goalTold
	net     []impl.Hop
	of      []wireTold // the wires of the net
}

// wildNets draws nets; false if there is no way left for one.
func (d *draughtsman) wildNets(p impl.Packed, c impl.Chip, tiles []int) ([][]impl.Hop, bool) {
	w := &wilds{draughtsman: d, wires: wiresTold(c), leaving: map[[3]int][]int{}, tracks: c.Tracks, taken: map[int]bool{}}
	for number := range c.High * (c.Wide + 1) * 4 * c.Tracks {
		if wire, there := w.wires[number]; there {
			at := [3]int{wire.x, wire.y, wire.track}
			w.leaving[at] = append(w.leaving[at], number)
		}
	}
	var nets [][]impl.Hop
	for source := range len(p.Ins) + len(p.Blocks) {
		w.own, w.net, w.of = sourceTold(p, c, tiles, source), nil, nil
		w.stray(d.below(3))
		for _, goal := range mixed(&d.choices, goalsTold(p, c, tiles, source)) {
			// a long way, and a short one that may come behind it
			if d.below(3) == 0 && !w.comeTo(goal, true) || !w.comeTo(goal, false) {
				return nil, false
			}
			w.stray(d.below(2))
		}
		nets = append(nets, w.net)
	}
	return nets, true
}

// places are those in the net from which a wire can go on.
func (w *wilds) places(number int) []int {
	wire := w.wires[number]
	var places []int
	if w.own == (goalTold{wire.x, wire.y}) {
		places = append(places, -1)
	}
	for i, ahead := range w.of {
		if ahead.toX == wire.x && ahead.toY == wire.y && ahead.track == wire.track {
			places = append(places, i)
		}
	}
	return places
}

// next are the wires that are free and could be put behind the net.
func (w *wilds) next() []int {
	var all []int
	for track := range w.tracks {
		all = append(all, w.leaving[[3]int{w.own.x, w.own.y, track}]...)
	}
	for _, wire := range w.of {
		all = append(all, w.leaving[[3]int{wire.toX, wire.toY, wire.track}]...)
	}
	return mixed(&w.choices, slices.DeleteFunc(all, func(number int) bool { return w.taken[number] }))
}

func (w *wilds) add(number, from int) {
	wire := w.wires[number]
	w.taken[number] = true
	w.net = append(w.net, impl.Hop{X: wire.x, Y: wire.y, Dir: wire.dir, Track: wire.track, From: from})
	w.of = append(w.of, wire)
}

// addAnywhere puts a wire behind the net that goes on from any that it can.
func (w *wilds) addAnywhere(number int) {
	places := w.places(number)
	w.add(number, places[w.below(len(places))])
}

// stray puts so many wires behind the net, wherever they lead.
func (w *wilds) stray(count int) {
	for range count {
		if next := w.next(); len(next) > 0 {
			w.addAnywhere(next[0])
		}
	}
}

// comeTo puts wires behind the net up to a goal, unless one is there, or still; by a long way or a short one.
func (w *wilds) comeTo(goal goalTold, long bool) bool {
	ends := func(wire wireTold) bool { return wire.toX == goal.x && wire.toY == goal.y }
	isThere := slices.ContainsFunc(w.of, ends)
	if isThere && w.below(2) == 0 {
		return true
	}
	ahead := map[int]int{}
	var waits []int
	for _, number := range w.next() {
		if _, seen := ahead[number]; !seen {
			ahead[number] = -1
			waits = append(waits, number)
		}
	}
	for len(waits) > 0 {
		at := 0
		if long {
			at = len(waits) - 1
		}
		number := waits[at]
		waits = slices.Delete(waits, at, at+1)
		wire := w.wires[number]
		if ends(wire) {
			w.addWay(ahead, number)
			return true
		}
		for _, next := range w.leaving[[3]int{wire.toX, wire.toY, wire.track}] {
			if _, seen := ahead[next]; !seen && !w.taken[next] {
				ahead[next] = number
				waits = append(waits, next)
			}
		}
	}
	return isThere
}

func (w *wilds) addWay(ahead map[int]int, number int) {
	way := []int{number}
	for ahead[number] >= 0 {
		number = ahead[number]
		way = append(way, number)
	}
	slices.Reverse(way)
	w.addAnywhere(way[0])
	for _, number := range way[1:] {
		w.add(number, len(w.net)-1)
	}
}

func roomyTiming(a timingCall) timingCall {
	a.p, a.tiles, a.nets = roomyPack(a.p), roomyList(a.tiles, 77), roomyNets(a.nets)
	a.periods, a.excepts = roomyList(a.periods, 77), roomyList(a.excepts, impl.Except{Cycles: 77})
	return a
}

// wholeTiming writes all out with what stands behind the lists.
func wholeTiming(a timingCall) string {
	return wholePack(a.p) + fmt.Sprint(a.c, a.tiles[:cap(a.tiles)], a.d, a.periods[:cap(a.periods)], a.excepts[:cap(a.excepts)]) + wholeNets(a.nets)
}

func reportApart(t *testing.T, r impl.Report, seen map[any]bool) {
	t.Helper()
	listApart(t, r.Paths, seen)
	listApart(t, r.Cross, seen)
}
