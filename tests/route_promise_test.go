package tests

import (
	"fmt"
	"slices"
	"sync"
	"testing"

	"loop.example/g00031/impl"
)

// holdRoute holds Route against what is told of it, and promise 18 of what it answers.
func holdRoute(t *testing.T, p impl.Packed, c impl.Chip, tiles []int) ([][]impl.Hop, int, routeStory) {
	t.Helper()
	nets, code := impl.Route(p, c, tiles)
	want, wantCode, story := routingTold(p, c, tiles)
	if code != wantCode || netsWritten(nets) != netsWritten(want) {
		t.Fatalf("%s on %v: %v: code %d, want %d\n%s, want\n%s", packShown(p), c, tiles, code, wantCode, netsWritten(nets), netsWritten(want))
	}
	if code == impl.OK {
		holdRouted(t, p, c, tiles, nets)
	} else if len(nets) != 0 {
		t.Fatalf("code %d, %v", code, nets)
	}
	return nets, code, story
}

// holdRouted: promise 18 of nets, by each of its parts: RouteOK, no wire in two nets nor twice in one, each end reached.
func holdRouted(t *testing.T, p impl.Packed, c impl.Chip, tiles []int, nets [][]impl.Hop) {
	t.Helper()
	if len(nets) != len(p.Ins)+len(p.Blocks) || !impl.RouteOK(p, c, tiles, nets) || !routeTold(p, c, tiles, nets) {
		t.Fatalf("%s on %v: %v: not RouteOK:\n%s", packWritten(p), c, tiles, netsWritten(nets))
	}
	having := map[impl.Hop]int{}
	for source, net := range nets {
		come := map[goalTold]bool{}
		for _, h := range net {
			h.From = 0
			having[h]++
			come[[]goalTold{{h.X + 1, h.Y}, {h.X, h.Y + 1}, {h.X - 1, h.Y}, {h.X, h.Y - 1}}[h.Dir]] = true
		}
		for _, goal := range goalsTold(p, c, tiles, source) {
			if !come[goal] {
				t.Fatalf("%s on %v: %v: source %d does not come to %v:\n%s", packWritten(p), c, tiles, source, goal, netsWritten(nets))
			}
		}
	}
	for h, times := range having {
		if times > 1 {
			t.Fatalf("%s on %v: %v: %d times %v:\n%s", packWritten(p), c, tiles, times, h, netsWritten(nets))
		}
	}
}

// Promise 18 of drawn designs, chips and placements; the answers are written over, and Route called again with the same arguments.
func TestRoutesDrawn(t *testing.T) {
	counts := map[string]int{}
	for seed := range uint64(1500) {
		d := draughtsmanOf(seed + 150000)
		p, c, tiles := d.toRoute()
		nets, code, story := holdRoute(t, p, c, tiles)
		countRoute(counts, p, c, tiles, code, story)
		was := netsWritten(nets)
		overwriteNets(nets)
		again, codeAgain := impl.Route(p, c, tiles)
		if codeAgain != code || netsWritten(again) != was {
			t.Fatalf("%s on %v: %v: code %d, %s, then code %d, %s", packWritten(p), c, tiles, code, was, codeAgain, netsWritten(again))
		}
	}
	wantsOften(t, counts, 200, []string{
		"an input", "a register", "a table", "nothing reads it", "it reads itself", "two tiles", "two rows", "a tile and a row",
		"done in round 1", "no fit", "reached on the way", "a further way from the net", "a further way from the source",
		"right wires of one price", "a dearer right wire of a lesser number", "wires ahead of one price", "three nets in a wire",
	})
	wantsOften(t, counts, 100, []string{"done in round 2", "an out and a check in one row"})
	wantsOften(t, counts, 12, []string{"done in round 3", "done in a later round"})
}

// countRoute counts what there was to a routing.
func countRoute(counts map[string]int, p impl.Packed, c impl.Chip, tiles []int, code int, story routeStory) {
	for what, count := range story.counts {
		counts[what] += count
	}
	switch {
	case code != impl.OK:
		counts["no fit"]++
	case story.rounds < 4:
		counts[fmt.Sprint("done in round ", story.rounds)]++
	default:
		counts["done in a later round"]++
	}
	for source := range len(p.Ins) + len(p.Blocks) {
		block := source - len(p.Ins)
		switch {
		case block < 0:
			counts["an input"]++
		case p.Blocks[block].Reg:
			counts["a register"]++
		default:
			counts["a table"]++
		}
		goals := goalsTold(p, c, tiles, source)
		rows := 0
		for _, goal := range goals {
			rows += numberIf(goal.x == c.Wide)
		}
		counts["nothing reads it"] += numberIf(len(goals) == 0)
		counts["it reads itself"] += numberIf(block >= 0 && slices.Contains(p.Blocks[max(block, 0)].In, source))
		counts["two tiles"] += numberIf(len(goals)-rows > 1)
		counts["two rows"] += numberIf(rows > 1)
		counts["a tile and a row"] += numberIf(rows > 0 && rows < len(goals))
		ports := slices.Concat(p.Outs, p.Checks)
		for j, out := range ports[:len(p.Outs)] {
			for k, check := range ports[len(p.Outs):] {
				counts["an out and a check in one row"] += numberIf(out.Src == source && check.Src == source && j%c.High == (len(p.Outs)+k)%c.High)
			}
		}
	}
}

// overwriteNets writes over all that is in nets, and behind the ends of the lists.
func overwriteNets(nets [][]impl.Hop) {
	for i, net := range nets {
		net = net[:cap(net)]
		for k := range net {
			net[k] = impl.Hop{X: -9, Y: -9, Dir: -9, Track: -9, From: -9}
		}
		nets[i] = nil
	}
}

// Promises 17 and 18 of what is mapped, packed, placed and then routed of drawn graphs: each does what the graph does.
func TestRoutesOfGraphs(t *testing.T) {
	done, fit := 0, 0
	for seed := range uint64(300) {
		d := draughtsmanOf(seed + 154000)
		a := d.anyTangled()
		if seed%2 == 0 {
			a = d.any()
		}
		m, _ := impl.MapLuts(a, 2+int(seed%3))
		steps := d.steps(impl.Aig{Ins: m.Ins, Clocks: m.Clocks}, 4)
		p := holdPacked(t, m, steps)
		if len(p.Blocks) > 40 {
			continue
		}
		rows, _ := impl.AigRun(a, steps)
		c := d.roomyChip(p)
		c.Tracks = max(c.Tracks, 1+d.below(8))
		tiles, code := holdPlace(t, p, c, d.below(1<<31), d.below(60))
		if code != impl.OK {
			t.Fatalf("%s: code %d", packWritten(p), code)
		}
		holdOwnTiles(t, p, c, tiles)
		_, code, _ = holdRoute(t, p, c, tiles)
		if told, _ := impl.PackRun(p, steps); rowsShown(told) != rowsShown(rows) {
			t.Fatalf("%s\nis packed\n%s", aigWritten(a), packWritten(p))
		}
		done += numberIf(code == impl.OK && len(p.Blocks) > 3)
		fit += numberIf(code == impl.ErrFit)
	}
	if done < 120 || fit < 5 {
		t.Errorf("%d done, %d not", done, fit)
	}
}

// Promise 18 of the greatest chip with as many blocks, inputs and outs as it has room for.
func TestRoutesWhole(t *testing.T) {
	for seed := range uint64(4) {
		d := draughtsmanOf(seed + 156000)
		p := d.packed(32, 64)
		p.Outs, p.Checks = nil, nil
		for i := range 16 {
			p.Outs = append(p.Outs, impl.Port{Name: fmt.Sprint("y", i), Src: d.below(96)})
			p.Checks = append(p.Checks, impl.Port{Name: fmt.Sprint("k", i), Src: d.below(96)})
		}
		c := trackChip(8, 8, 8)
		tiles, _ := impl.Place(p, c, int(seed), 2000)
		nets, code := impl.Route(p, c, tiles)
		if code != impl.OK {
			t.Fatalf("code %d", code)
		}
		holdRouted(t, p, c, tiles, nets)
		// on one track there is no way for all
		c.Tracks = 1
		if nets, code := impl.Route(p, c, tiles); code != impl.ErrFit || len(nets) != 0 {
			t.Errorf("code %d, %d nets", code, len(nets))
		}
	}
}

// Nets of drawn designs with one piece changed are such where the chapter's rules say so.
func TestBentRoutes(t *testing.T) {
	right, wrong := 0, 0
	for seed := range uint64(6000) {
		d := draughtsmanOf(seed + 160000)
		p := d.packed(d.below(4), d.below(6))
		c := d.roomyChip(p)
		c.Tracks = max(c.Tracks, 3)
		tiles := d.tiles(p, c)
		nets, code := impl.Route(p, c, tiles)
		if code != impl.OK {
			continue
		}
		nets = d.bentNets(nets)
		ok := routeTold(p, c, tiles, nets)
		wantsNets(t, p, c, tiles, nets, ok)
		right += numberIf(ok)
		wrong += numberIf(!ok)
	}
	if right < 600 || wrong < 1500 {
		t.Errorf("%d right, %d wrong", right, wrong)
	}
}

// Designs, chips and tiles that may be none: Route and RouteOK say so.
func TestRoutesOfAny(t *testing.T) {
	codes := map[int]int{}
	for seed := range uint64(3000) {
		d := draughtsmanOf(seed + 170000)
		p, c, tiles := d.toRoute()
		nets, _ := impl.Route(p, c, tiles)
		switch d.below(4) {
		case 0:
			d.bentPack(&p)
		case 1:
			field := []*int{&c.Wide, &c.High, &c.Tracks, &c.Pads}[d.below(4)]
			*field = []int{0, -1, 9, 5, *field - 1, *field + 1, -1 << 63, 1<<63 - 1}[d.below(8)]
		case 2:
			tiles = append(tiles, d.below(c.Wide*c.High))
		default:
			if len(tiles) > 0 {
				tiles[d.below(len(tiles))] += []int{1, -1, 8, 64, 1 << 40}[d.below(5)]
			}
		}
		wantsNets(t, p, c, tiles, nets, routeTold(p, c, tiles, nets))
		got, code := impl.Route(p, c, tiles)
		if (code == impl.ErrBad) == placeTold(p, c, tiles) || code != impl.OK && len(got) != 0 {
			t.Fatalf("%s on %v: %v: code %d, %v", packShown(p), c, tiles, code, got)
		}
		if code == impl.OK {
			holdRouted(t, p, c, tiles, got)
		}
		codes[code]++
	}
	for _, code := range []int{impl.OK, impl.ErrBad, impl.ErrFit} {
		if codes[code] < 80 {
			t.Errorf("codes %v", codes)
		}
	}
}

// Promise 1: no argument is written into, not behind its end either; answers are new memory, and no two lists of one share any.
func TestRouteKeepsArguments(t *testing.T) {
	for seed := range uint64(300) {
		d := draughtsmanOf(seed + 180000)
		p, c, tiles := d.toRoute()
		p, tiles = roomyPack(p), roomyList(tiles, 77)
		was, _ := impl.Route(p, c, tiles)
		nets := roomyNets(was)
		told := func() string { return wholePack(p) + fmt.Sprint(c, tiles[:cap(tiles)]) + wholeNets(nets) }
		before := told()
		seen := map[any]bool{}
		packApart(t, p, seen)
		listApart(t, tiles, seen)
		netsApart(t, nets, seen)
		var answers []string
		for range 2 {
			made, code := impl.Route(p, c, tiles)
			netsApart(t, made, seen)
			answers = append(answers, fmt.Sprint(netsWritten(made), code, impl.RouteOK(p, c, tiles, nets)))
		}
		if told() != before {
			t.Fatalf("%s: the arguments were changed", before)
		}
		if answers[0] != answers[1] {
			t.Fatalf("%s: another answer", before)
		}
	}
}

// overwriteNetlist writes over all that is in a netlist, and behind the ends of its lists.
func overwriteNetlist(n impl.Net) {
	for i := range n.Cells[:cap(n.Cells)] {
		c := &n.Cells[:cap(n.Cells)][i]
		overwriteList(c.In, -9)
		*c = impl.Cell{Op: -9, Width: -9}
	}
	overwriteList(n.Ins, impl.NetPort{Name: "over", Width: -9})
	overwriteList(n.Clocks, "over")
	overwriteList(n.Regs, impl.NetReg{Name: "over", Next: -9})
	overwriteList(n.Outs, impl.NetOut{Name: "over", Cell: -9})
	overwriteList(n.Checks, impl.NetOut{Name: "over", Cell: -9})
}

func overwriteList[T any](list []T, by T) {
	list = list[:cap(list)]
	for i := range list {
		list[i] = by
	}
}

func overwriteCuts(cuts [][]impl.Cut) {
	for _, list := range cuts {
		for _, c := range list[:cap(list)] {
			overwriteList(c.Leaves, -9)
		}
		overwriteList(list, impl.Cut{Table: -9})
	}
	overwriteList(cuts, nil)
}

// Promise 1 of Lower, Cuts and Route together: what they gave is written over, and neither their arguments nor what they answer later is another one by that, nor what was made of it before.
func TestAnswersWrittenOver(t *testing.T) {
	routed := 0
	for seed := range uint64(120) {
		s, d := smithOf(seed+22000, 0), draughtsmanOf(seed+182000)
		f := roomyFlat(s.design())
		net, code := impl.Lower(f)
		a, _ := impl.Blast(net)
		other := roomyAig(d.anyTangled())
		p, c, tiles := d.toRoute()
		p, tiles = roomyPack(p), roomyList(tiles, 77)
		cuts, cutsCode := impl.Cuts(other, 4)
		ofNet, ofNetCode := impl.Cuts(a, 3)
		nets, netsCode := impl.Route(p, c, tiles)
		routed += numberIf(netsCode == impl.OK && len(nets) > 0)
		arguments := func() string {
			return roomShown(f) + aigShown(a) + wholeAig(other) + wholePack(p) + fmt.Sprint(tiles[:cap(tiles)])
		}
		shown := func(net impl.Net, cuts, ofNet [][]impl.Cut, nets [][]impl.Hop, codes ...int) string {
			return fmt.Sprint(netShown(net), cutsShown(cuts), cutsShown(ofNet), netsWritten(nets), codes)
		}
		before, want := arguments(), shown(net, cuts, ofNet, nets, code, cutsCode, ofNetCode, netsCode)
		for range 3 {
			overwriteNetlist(net)
			overwriteCuts(cuts)
			overwriteCuts(ofNet)
			overwriteNets(nets)
			if arguments() != before {
				t.Fatalf("%s: the arguments were changed", before)
			}
			net, code = impl.Lower(f)
			cuts, cutsCode = impl.Cuts(other, 4)
			ofNet, ofNetCode = impl.Cuts(a, 3)
			nets, netsCode = impl.Route(p, c, tiles)
			if got := shown(net, cuts, ofNet, nets, code, cutsCode, ofNetCode, netsCode); got != want || arguments() != before {
				t.Fatalf("%s, then %s", want, got)
			}
		}
	}
	if routed < 50 {
		t.Errorf("only %d", routed)
	}
}

// Calls side by side answer what they answer one behind the other.
func TestRoutesSideBySide(t *testing.T) {
	p, c, tiles := packRead("a | | 0=0 0=0 =0 0,3=0 | y:1 z:1"), trackChip(2, 3, 1), []int{2, 4, 0, 3}
	want, _ := impl.Route(p, c, tiles)
	var joined sync.WaitGroup
	for range 16 {
		joined.Go(func() {
			for range 10 {
				if got, code := impl.Route(p, c, tiles); code != impl.OK || netsWritten(got) != netsWritten(want) {
					t.Errorf("code %d, %s, want %s", code, netsWritten(got), netsWritten(want))
				}
				if !impl.RouteOK(p, c, tiles, want) {
					t.Error("not RouteOK")
				}
			}
		})
	}
	joined.Wait()
}
