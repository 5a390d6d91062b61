package tests

import (
	"fmt"
	"slices"
	"sync"
	"testing"

	"loop.example/g00031/impl"
)

// holdPacked: promise 17 of one mapped design: packed it is a packed design with its names, and tells the same rows.
func holdPacked(t *testing.T, m impl.Mapped, steps []impl.Step) impl.Packed {
	t.Helper()
	rows, code := impl.MapRun(m, steps)
	if code != impl.OK {
		t.Fatalf("%s: code %d", mapWritten(m), code)
	}
	p, code := holdPack(t, m)
	if code != impl.OK || !impl.PackOK(p) || !packTold(p) || packNames(p) != mapNames(m) {
		t.Fatalf("%s: code %d, is packed\n%s", mapShown(m), code, packShown(p))
	}
	if told, code := holdPackRun(t, p, steps); code != impl.OK || rowsShown(told) != rowsShown(rows) {
		t.Fatalf("%s\nis packed\n%s\n%v: code %d\n%s, but then it tells\n%s", mapWritten(m), packWritten(p), steps, code, rowsShown(rows), rowsShown(told))
	}
	return p
}

// packNames are all names of a packed design, with what else stays of registers, as mapNames has a mapped one's.
func packNames(p impl.Packed) string {
	m := impl.Mapped{Ins: p.Ins, Clocks: p.Clocks, Outs: p.Outs, Checks: p.Checks}
	for _, b := range p.Blocks {
		if b.Reg {
			m.Regs = append(m.Regs, impl.MapReg{Name: b.Name, Init: b.Init, Clock: b.Clock})
		}
	}
	return mapNames(m)
}

// countPacked counts of which kinds a mapped design's registers and tables are.
func countPacked(counts map[string]int, m impl.Mapped) {
	first := len(m.Ins) + len(m.Regs)
	by := func(source int, ports []impl.Port) int {
		return numberIf(slices.ContainsFunc(ports, func(p impl.Port) bool { return p.Src == source }))
	}
	readers := func(source int) map[string]int {
		kinds := map[string]int{"an out": by(source, m.Outs), "a check": by(source, m.Checks)}
		for _, l := range m.Luts {
			kinds["a table"] += numberIf(slices.Contains(l.In, source))
		}
		for _, r := range m.Regs {
			kinds["a register"] += numberIf(r.Src == source)
		}
		return kinds
	}
	for _, r := range m.Regs {
		kinds := readers(r.Src)
		switch {
		case r.Src < len(m.Ins):
			counts["register of an input"]++
		case r.Src < first:
			counts["register of a register"]++
		case kinds["a register"] > 1:
			counts["registers of one table"]++
		case kinds["an out"]+kinds["a check"]+kinds["a table"] == 0:
			counts["table that goes into a register's"]++
		}
		for _, kind := range []string{"an out", "a check", "a table"} {
			counts["register's table that "+kind+" reads"] += numberIf(r.Src >= first && kinds[kind] > 0)
		}
	}
	for i := range m.Luts {
		kinds := readers(first + i)
		counts["table that nothing reads"] += numberIf(kinds["a register"]+kinds["an out"]+kinds["a check"]+kinds["a table"] == 0)
	}
}

func packedKinds() []string {
	return []string{"register of an input", "register of a register", "registers of one table", "table that goes into a register's", "register's table that an out reads", "register's table that a check reads", "register's table that a table reads"}
}

// Promise 17 of drawn mapped designs, those too that MapLuts never makes.
func TestPacksDrawn(t *testing.T) {
	counts := map[string]int{}
	for seed := range uint64(1500) {
		d := draughtsmanOf(seed + 90000)
		m := d.anyMapped()
		if seed%3 == 0 {
			m = d.mapped(d.below(4), 1+d.below(12), 1+d.below(12))
		}
		holdPacked(t, m, d.steps(impl.Aig{Ins: m.Ins, Clocks: m.Clocks}, d.below(8)))
		countPacked(counts, m)
	}
	wantsOften(t, counts, 200, append(packedKinds(), "table that nothing reads"))
}

// Promise 17 of what MapLuts makes of drawn graphs, whose rows the packed design tells, too.
func TestPacksOfGraphs(t *testing.T) {
	counts := map[string]int{}
	for seed := range uint64(600) {
		d := draughtsmanOf(seed + 92000)
		a := d.any()
		if seed%2 == 0 {
			a = d.anyTangled()
		}
		steps := d.allInputs(a)
		rows, _ := impl.AigRun(a, steps)
		m, code := impl.MapLuts(a, 2+int(seed%3))
		if code != impl.OK {
			t.Fatalf("%s: code %d", aigWritten(a), code)
		}
		p := holdPacked(t, m, steps)
		if told, _ := impl.PackRun(p, steps); rowsShown(told) != rowsShown(rows) {
			t.Fatalf("%s\nis packed\n%s\n%v\n%s, but then it tells\n%s", aigWritten(a), packWritten(p), steps, rowsShown(rows), rowsShown(told))
		}
		countPacked(counts, m)
	}
	wantsOften(t, counts, 30, packedKinds())
}

// Promise 17 of netlists that were designs.
func TestPacksOfDesigns(t *testing.T) {
	done := 0
	for seed := range uint64(40) {
		s := smithOf(seed+16000, 0)
		n, _ := impl.Lower(s.design())
		a, code := impl.Blast(n)
		if code != impl.OK || len(a.Ands) > 600 {
			continue
		}
		steps := s.steps(n, 6)
		rows, _ := impl.NetRun(n, steps)
		m, code := impl.MapLuts(a, 4)
		if code != impl.OK || len(m.Regs)+len(m.Luts) > 512 {
			continue
		}
		p := holdPacked(t, m, stepsBlasted(steps))
		if told, _ := impl.PackRun(p, stepsBlasted(steps)); rowsShown(told) != rowsShown(rowsBlasted(rows)) {
			t.Fatalf("%s\nis packed\n%s", netWritten(n), packWritten(p))
		}
		done++
	}
	if done < 20 {
		t.Errorf("only %d", done)
	}
}

// Drawn packed designs run as told, those too that Pack never makes.
func TestPacksRun(t *testing.T) {
	counts := map[string]int{}
	for seed := range uint64(1500) {
		d := draughtsmanOf(seed + 94000)
		p := d.anyPacked()
		wantsPack(t, packShown(p), p, true)
		holdPackRun(t, p, d.steps(impl.Aig{Ins: p.Ins, Clocks: p.Clocks}, d.below(8)))
		for at, b := range p.Blocks {
			kind := []string{"a table of ", "a register of "}[numberIf(b.Reg)]
			for _, source := range b.In {
				read := source - len(p.Ins)
				switch {
				case read < 0:
					counts[kind+"an input"]++
				case read == at:
					counts[kind+"itself"]++
				default:
					counts[kind+[]string{"a table ", "a register "}[numberIf(p.Blocks[read].Reg)]+[]string{"ahead", "behind"}[numberIf(read > at)]]++
				}
			}
		}
	}
	wantsOften(t, counts, 200, []string{
		"a table of an input", "a table of a table ahead", "a table of a register ahead", "a table of a register behind",
		"a register of an input", "a register of itself", "a register of a table ahead", "a register of a table behind", "a register of a register ahead", "a register of a register behind",
	})
	if counts["a table of itself"]+counts["a table of a table behind"] > 0 {
		t.Error(counts)
	}
}

// A design with one piece changed is one where the chapter's rules say so, and runs and is placed as told.
func TestBentPacks(t *testing.T) {
	right, wrong := 0, 0
	for seed := range uint64(5000) {
		d := draughtsmanOf(seed + 96000)
		p := d.packed(d.below(5), d.below(12))
		steps := d.steps(impl.Aig{Ins: p.Ins, Clocks: p.Clocks}, 3)
		c := d.roomyChip(p)
		tiles := d.tiles(p, c)
		d.bentPack(&p)
		ok := packTold(p)
		wantsPack(t, packShown(p), p, ok)
		right += numberIf(ok)
		wrong += numberIf(!ok)
		holdPackRun(t, p, steps)
		wantsPlace(t, packShown(p), p, c, tiles, ok && padsTold(p, c) && len(tiles) == len(p.Blocks))
		holdPlace(t, p, c, d.below(1000), d.below(4))
	}
	if right < 800 || wrong < 1500 {
		t.Errorf("%d right, %d wrong", right, wrong)
	}
}

// A mapped design with one piece changed is packed, or is none.
func TestBentMapsPacked(t *testing.T) {
	codes := map[int]int{}
	for seed := range uint64(2000) {
		d := draughtsmanOf(seed + 102000)
		m := d.mapped(d.below(5), d.below(5), d.below(12))
		d.bentMap(&m)
		p, code := holdPack(t, m)
		wantsPack(t, mapShown(m), p, true)
		codes[code]++
	}
	if codes[impl.OK] < 300 || codes[impl.ErrBad] < 500 {
		t.Errorf("codes %v", codes)
	}
}

// holdOwnTiles: promise 17 of what Place answers: each block stands on a tile of its own, that the chip has.
func holdOwnTiles(t *testing.T, p impl.Packed, c impl.Chip, tiles []int) {
	t.Helper()
	blocks := map[int]int{}
	for i, tile := range tiles {
		if other, there := blocks[tile]; there {
			t.Fatalf("%s on %v: %v: blocks %d and %d on one tile", packWritten(p), c, tiles, other, i)
		}
		blocks[tile] = i
		if tile < 0 || tile >= c.Wide*c.High {
			t.Fatalf("%s on %v: %v: no tile", packWritten(p), c, tiles)
		}
	}
	wantsPlace(t, packWritten(p), p, c, tiles, true)
}

func countMoves(counts map[string]int, told []moveTold) {
	for _, m := range told {
		kind := []string{"to an empty tile", "a swap"}[numberIf(m.swap)]
		switch {
		case m.over:
			counts["over"]++
			continue
		case m.d < 0:
			kind += " for less"
		case m.d == 0:
			kind += " for nothing"
		default:
			kind += []string{", back", " for more"}[numberIf(m.stands)]
		}
		counts[kind]++
		counts["just below the bound"] += numberIf(m.d > 0 && m.rd == m.bound-1)
		counts["at the bound"] += numberIf(m.d > 0 && m.rd == m.bound)
		counts["for nothing at bound 0"] += numberIf(m.d == 0 && m.bound == 0)
	}
}

func moveKinds() []string {
	return []string{"over", "to an empty tile for less", "to an empty tile for nothing", "to an empty tile for more", "to an empty tile, back", "a swap for less", "a swap for nothing", "a swap for more", "a swap, back"}
}

// Promise 17 of drawn designs, chips, seeds and moves.
func TestPlacesDrawn(t *testing.T) {
	counts := map[string]int{}
	for seed := range uint64(700) {
		d := draughtsmanOf(seed + 110000)
		p := d.anyPacked()
		c := d.roomyChip(p)
		from := []int{d.below(1000), d.below(1 << 31), 1<<31 - 1 - d.below(50)}[d.below(3)]
		moves := []int{d.below(4), d.below(60), d.below(60), 100 + d.below(200)}[d.below(4)]
		tiles, code, told := holdMoves(t, p, c, from, moves)
		if code != impl.OK {
			t.Fatalf("%s on %v: code %d", packWritten(p), c, code)
		}
		holdOwnTiles(t, p, c, tiles)
		first, _ := impl.Place(p, c, from, 0)
		if !slices.Equal(first, firstTiles(len(p.Blocks))) {
			t.Fatalf("%v", first)
		}
		countMoves(counts, told)
	}
	wantsOften(t, counts, 200, moveKinds())
	wantsOften(t, counts, 3, []string{"just below the bound", "at the bound"})
}

// As many moves as there can be, on chips with no room to spare, or but little.
func TestPlacesLong(t *testing.T) {
	counts := map[string]int{}
	for seed := range uint64(12) {
		d := draughtsmanOf(seed + 112000)
		p := d.packed(1+d.below(4), 1+d.below(8))
		c := d.roomyChip(p)
		for len(p.Blocks)+3 < c.Wide*c.High && c.High > 1 {
			c = d.roomyChip(p)
		}
		tiles, _, told := holdMoves(t, p, c, d.below(1<<31), 5000-d.below(3))
		holdOwnTiles(t, p, c, tiles)
		countMoves(counts, told)
	}
	wantsOften(t, counts, 30, moveKinds())
	wantsOften(t, counts, 3, []string{"just below the bound", "at the bound", "for nothing at bound 0"})
}

// Promise 17 of what is mapped and packed of drawn graphs.
func TestPlacesOfGraphs(t *testing.T) {
	done := 0
	for seed := range uint64(150) {
		d := draughtsmanOf(seed + 114000)
		m, _ := impl.MapLuts(d.anyTangled(), 2+int(seed%3))
		p, _ := impl.Pack(m)
		if len(p.Blocks) > 64 {
			continue
		}
		c := d.roomyChip(p)
		tiles, code := holdPlace(t, p, c, d.below(1<<31), d.below(80))
		if code != impl.OK {
			t.Fatalf("%s: code %d", packWritten(p), code)
		}
		holdOwnTiles(t, p, c, tiles)
		done += numberIf(len(p.Blocks) > 3)
	}
	if done < 60 {
		t.Errorf("only %d", done)
	}
}

// Drawn chips, which may have no room, and numbers that may be none.
func TestPlacesOnAnyChip(t *testing.T) {
	codes := map[int]int{}
	for seed := range uint64(2500) {
		d := draughtsmanOf(seed + 116000)
		p, c := d.anyPacked(), d.chip()
		if d.below(6) == 0 {
			field := []*int{&c.Wide, &c.High, &c.Tracks, &c.Pads}[d.below(4)]
			*field = []int{0, -1, 9, 5, -1 << 63, 1<<63 - 1}[d.below(6)]
		}
		from, moves := d.below(1<<31), d.below(12)
		if d.below(6) == 0 {
			from += []int{-1 << 31, 1 << 31, -1 << 63, 1<<63 - 1<<31}[d.below(4)]
		}
		if d.below(6) == 0 {
			moves = []int{-1, 5001, -1 << 63, 1<<63 - 1}[d.below(4)]
		}
		_, code := holdPlace(t, p, c, from, moves)
		codes[code]++
	}
	for _, code := range []int{impl.OK, impl.ErrBad, impl.ErrRange, impl.ErrFit} {
		if codes[code] < 150 {
			t.Errorf("codes %v", codes)
		}
	}
}

// Drawn tiles, and such with one changed: PlaceOK and Cost are as told.
func TestCostsDrawn(t *testing.T) {
	right, wrong := 0, 0
	for seed := range uint64(4000) {
		d := draughtsmanOf(seed + 120000)
		p := d.anyPacked()
		c := d.roomyChip(p)
		tiles := d.tiles(p, c)
		wantsPlace(t, packWritten(p), p, c, tiles, true)
		switch kind := d.below(6); {
		case kind == 0:
			tiles = append(tiles, d.below(c.Wide*c.High))
		case kind == 1 && len(tiles) > 0:
			tiles = tiles[1:]
		case kind == 2 && len(tiles) > 0:
			tiles[d.below(len(tiles))] = tiles[d.below(len(tiles))]
		case kind == 3 && len(tiles) > 0:
			tiles[d.below(len(tiles))] += []int{1, -1, 8, 64, 1 << 40}[d.below(5)]
		default:
			field := []*int{&c.Wide, &c.High, &c.Tracks, &c.Pads}[d.below(4)]
			*field += []int{1, -1}[d.below(2)]
		}
		ok := placeTold(p, c, tiles)
		wantsPlace(t, packWritten(p), p, c, tiles, ok)
		right += numberIf(ok)
		wrong += numberIf(!ok)
	}
	if right < 800 || wrong < 800 {
		t.Errorf("%d right, %d wrong", right, wrong)
	}
}

func packApart(t *testing.T, p impl.Packed, seen map[any]bool) {
	t.Helper()
	listApart(t, p.Ins, seen)
	listApart(t, p.Clocks, seen)
	listApart(t, p.Blocks, seen)
	listApart(t, p.Outs, seen)
	listApart(t, p.Checks, seen)
	for _, b := range p.Blocks {
		listApart(t, b.In, seen)
	}
}

// Promise 1: no argument is written into, not behind its end either; answers are new memory, and no two lists of one share any.
func TestPlaceKeepsArguments(t *testing.T) {
	for seed := range uint64(300) {
		d := draughtsmanOf(seed + 130000)
		m, p := roomyMap(d.anyMapped()), roomyPack(d.anyPacked())
		c := d.roomyChip(p)
		ofMap := roomySteps(d.steps(impl.Aig{Ins: m.Ins, Clocks: m.Clocks}, d.below(6)))
		ofPack := roomySteps(d.steps(impl.Aig{Ins: p.Ins, Clocks: p.Clocks}, d.below(6)))
		tiles := roomyList(d.tiles(p, c), 77)
		told := func() string {
			return wholeMap(m) + wholePack(p) + wholeSteps(ofMap) + wholeSteps(ofPack) + fmt.Sprint(tiles[:cap(tiles)])
		}
		before := told()
		seen := map[any]bool{}
		mapApart(t, m, seen)
		packApart(t, p, seen)
		listApart(t, tiles, seen)
		var answers []string
		for range 2 {
			made, code := impl.Pack(m)
			packApart(t, made, seen)
			impl.PackRun(made, ofMap)
			rows, _ := impl.PackRun(p, ofPack)
			rowsApart(t, rows, seen)
			placed, placeCode := impl.Place(p, c, int(seed), 20)
			listApart(t, placed, seen)
			answers = append(answers, fmt.Sprint(packShown(made), code, rowsShown(rows), placed, placeCode, impl.PackOK(p), impl.PlaceOK(p, c, tiles), impl.Cost(p, c, tiles)))
		}
		if told() != before {
			t.Fatalf("%s: the arguments were changed", before)
		}
		if answers[0] != answers[1] {
			t.Fatalf("%s: another answer", before)
		}
	}
}

// Calls side by side answer what they answer one behind the other.
func TestPlacesSideBySide(t *testing.T) {
	d := draughtsmanOf(140000)
	p := d.packed(4, 16)
	c := d.roomyChip(p)
	want, _ := impl.Place(p, c, 9, 400)
	var joined sync.WaitGroup
	for range 16 {
		joined.Go(func() {
			if got, code := impl.Place(p, c, 9, 400); code != impl.OK || !slices.Equal(got, want) {
				t.Errorf("code %d, %v, want %v", code, got, want)
			}
			if got := impl.Cost(p, c, want); got != costTold(p, c, want) {
				t.Errorf("cost %d", got)
			}
		})
	}
	joined.Wait()
}
