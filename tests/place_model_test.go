package tests

import (
	"fmt"
	"slices"

	"loop.example/g00031/impl"
)

// packTold says what PackOK must answer.
func packTold(p impl.Packed) bool {
	if len(p.Blocks) > 512 || len(p.Ins) > 2048 || len(p.Outs) > 2048 || len(p.Checks) > 2048 || len(p.Clocks) > 8 {
		return false
	}
	sources := len(p.Ins) + len(p.Blocks)
	var regs, outs, checks []string
	for i, b := range p.Blocks {
		if len(b.In) > 4 || len(setOf(b.In)) < len(b.In) || b.Table < 0 || b.Table >= []int{2, 4, 16, 256, 65536}[len(b.In)] {
			return false
		}
		for _, source := range b.In {
			if source < 0 || source >= sources || !mayRead(p, i, source) {
				return false
			}
		}
		if !b.Reg {
			if b.Name != "" || b.Init != 0 || b.Clock != 0 {
				return false
			}
			continue
		}
		if b.Init != 0 && b.Init != 1 || b.Clock < 0 || b.Clock >= len(p.Clocks) {
			return false
		}
		regs = append(regs, b.Name)
	}
	for _, port := range slices.Concat(p.Outs, p.Checks) {
		if port.Src < 0 || port.Src >= sources {
			return false
		}
	}
	for _, port := range p.Outs {
		outs = append(outs, port.Name)
	}
	for _, port := range p.Checks {
		checks = append(checks, port.Name)
	}
	return namesTold(slices.Concat(p.Ins, p.Clocks)) && namesTold(regs) && namesTold(outs) && namesTold(checks)
}

// packingTold says what Pack must answer.
func packingTold(m impl.Mapped) (impl.Packed, int) {
	if !mapTold(m) {
		return impl.Packed{}, impl.ErrBad
	}
	first := len(m.Ins) + len(m.Regs)
	reads := map[int]int{}
	for _, l := range m.Luts {
		for _, source := range l.In {
			reads[source]++
		}
	}
	for _, port := range slices.Concat(m.Outs, m.Checks) {
		reads[port.Src]++
	}
	for _, r := range m.Regs {
		reads[r.Src]++
	}
	alone := func(r impl.MapReg) bool { return r.Src >= first && reads[r.Src] == 1 }
	// the sources that there still are, in their new order
	var left []int
	for source := range first + len(m.Luts) {
		if !slices.ContainsFunc(m.Regs, func(r impl.MapReg) bool { return r.Src == source && alone(r) }) {
			left = append(left, source)
		}
	}
	all := func(sources ...int) []int {
		var now []int
		for _, source := range sources {
			now = append(now, slices.Index(left, source))
		}
		return now
	}
	out := impl.Packed{Ins: m.Ins, Clocks: m.Clocks}
	for _, r := range m.Regs {
		b := impl.Block{Name: r.Name, Reg: true, Init: r.Init, Clock: r.Clock, In: all(r.Src), Table: 2}
		if alone(r) {
			l := m.Luts[r.Src-first]
			b.In, b.Table = all(l.In...), l.Table
		}
		out.Blocks = append(out.Blocks, b)
	}
	for _, source := range left {
		if source >= first {
			l := m.Luts[source-first]
			out.Blocks = append(out.Blocks, impl.Block{In: all(l.In...), Table: l.Table})
		}
	}
	for _, port := range m.Outs {
		out.Outs = append(out.Outs, impl.Port{Name: port.Name, Src: all(port.Src)[0]})
	}
	for _, port := range m.Checks {
		out.Checks = append(out.Checks, impl.Port{Name: port.Name, Src: all(port.Src)[0]})
	}
	if len(out.Blocks) > 512 {
		return impl.Packed{}, impl.ErrMany
	}
	return out, impl.OK
}

// packValue is what sources are, worked out anew from what they hang on; held has what registers are, by their blocks.
type packValue struct {
	p    impl.Packed
	ins  []string
	held map[int]string
	seen map[int]string
}

func (v *packValue) of(source int) string {
	if source < len(v.ins) {
		return v.ins[source]
	}
	block := source - len(v.ins)
	if v.p.Blocks[block].Reg {
		return v.held[block]
	}
	if _, ok := v.seen[block]; !ok {
		v.seen[block] = v.table(block)
	}
	return v.seen[block]
}

// table is what a block's table tells: of all its bits each In leaves the half that has it.
func (v *packValue) table(block int) string {
	b := v.p.Blocks[block]
	var bits []int
	for i := range 1 << len(b.In) {
		bits = append(bits, i)
	}
	for j, source := range b.In {
		bit := v.of(source)
		bits = slices.DeleteFunc(bits, func(i int) bool { return fmt.Sprint(i>>j%2) != bit })
	}
	return fmt.Sprint(b.Table >> bits[0] % 2)
}

// packRunTold says what PackRun must answer.
func packRunTold(p impl.Packed, steps []impl.Step) ([]impl.Row, int) {
	if len(steps) > 4096 {
		return nil, impl.ErrLong
	}
	if !packTold(p) {
		return nil, impl.ErrBad
	}
	for _, s := range steps {
		wrong := func(bit string) bool { return bit != "0" && bit != "1" }
		if len(s.Ins) != len(p.Ins) || len(s.Ticks) != len(p.Clocks) || slices.ContainsFunc(s.Ins, wrong) {
			return nil, impl.ErrBad
		}
	}
	held := map[int]string{}
	for i, b := range p.Blocks {
		if b.Reg {
			held[i] = fmt.Sprint(b.Init)
		}
	}
	var rows []impl.Row
	for _, s := range steps {
		ahead := packValue{p, s.Ins, held, map[int]string{}}
		behind := packValue{p, s.Ins, map[int]string{}, map[int]string{}}
		for block, was := range held {
			behind.held[block] = was
			if s.Ticks[p.Blocks[block].Clock] {
				behind.held[block] = ahead.table(block)
			}
		}
		held = behind.held
		var row impl.Row
		for _, port := range p.Outs {
			row.Outs = append(row.Outs, behind.of(port.Src))
		}
		for _, port := range p.Checks {
			row.Checks = append(row.Checks, behind.of(port.Src))
		}
		for i, b := range p.Blocks {
			if b.Reg {
				row.Regs = append(row.Regs, behind.of(len(p.Ins)+i))
			}
		}
		rows = append(rows, row)
	}
	return rows, impl.OK
}

// chipTold says what ChipOK must answer.
func chipTold(c impl.Chip) bool {
	return 1 <= c.Wide && c.Wide <= 8 && 1 <= c.High && c.High <= 8 && 1 <= c.Tracks && c.Tracks <= 8 && 1 <= c.Pads && c.Pads <= 4
}

// padsTold says whether each input, out and check has its pad.
func padsTold(p impl.Packed, c impl.Chip) bool {
	for i := range p.Ins {
		if i/c.High >= c.Pads {
			return false
		}
	}
	for j := range len(p.Outs) + len(p.Checks) {
		if j/c.High >= c.Pads {
			return false
		}
	}
	return true
}

// placeTold says what PlaceOK must answer.
func placeTold(p impl.Packed, c impl.Chip, tiles []int) bool {
	if !packTold(p) || !chipTold(c) || !padsTold(p, c) || len(tiles) != len(p.Blocks) {
		return false
	}
	isNone := func(tile int) bool { return tile < 0 || tile >= c.Wide*c.High }
	return !slices.ContainsFunc(tiles, isNone) && len(setOf(tiles)) == len(tiles)
}

// costTold says what Cost must answer.
func costTold(p impl.Packed, c impl.Chip, tiles []int) int {
	if !placeTold(p, c, tiles) {
		return -1
	}
	return sumTold(costsTold(p, c, tiles))
}

// costsTold has of each source what it adds to the cost: 0 where nothing reads it.
func costsTold(p impl.Packed, c impl.Chip, tiles []int) []int {
	costs := make([]int, len(p.Ins)+len(p.Blocks))
	for source := range costs {
		var xs, ys []int
		stands := func(x, y int) { xs, ys = append(xs, x), append(ys, y) }
		for i, b := range p.Blocks {
			if slices.Contains(b.In, source) {
				stands(tiles[i]%c.Wide, tiles[i]/c.Wide)
			}
		}
		for j, port := range slices.Concat(p.Outs, p.Checks) {
			if port.Src == source {
				stands(c.Wide, j%c.High)
			}
		}
		if len(xs) == 0 {
			continue
		}
		if source < len(p.Ins) {
			stands(-1, source%c.High)
		} else {
			tile := tiles[source-len(p.Ins)]
			stands(tile%c.Wide, tile/c.Wide)
		}
		costs[source] = slices.Max(xs) - slices.Min(xs) + slices.Max(ys) - slices.Min(ys)
	}
	return costs
}

// moveTold is a move of a placement: what it was, how much greater the cost became, what r d is, and the bound as a fraction.
type moveTold struct {
	over, swap bool
	d, rd      int
	bound      int
	stands     bool
}

// placingTold says what Place must answer, with its moves.
func placingTold(p impl.Packed, c impl.Chip, seed, moves int) ([]int, int, []moveTold) {
	if !packTold(p) || !chipTold(c) {
		return nil, impl.ErrBad, nil
	}
	if seed < 0 || seed > 2147483647 || moves < 0 || moves > 5000 {
		return nil, impl.ErrRange, nil
	}
	if len(p.Blocks) > c.Wide*c.High || !padsTold(p, c) {
		return nil, impl.ErrFit, nil
	}
	var tiles []int
	for i := range p.Blocks {
		tiles = append(tiles, i)
	}
	if len(tiles) == 0 {
		return nil, impl.OK, nil
	}
	number := func(n int) int {
		seed = int(uint32(seed)*1103515245+12345) & (1<<31 - 1)
		return seed >> 16 % n
	}
	cost := sumTold(costsTold(p, c, tiles))
	var told []moveTold
	for m := range moves {
		block, tile := number(len(tiles)), number(c.Wide*c.High)
		if tiles[block] == tile {
			told = append(told, moveTold{over: true})
			continue
		}
		was := slices.Clone(tiles)
		other := slices.Index(tiles, tile)
		tiles[block] = tile
		if other >= 0 {
			tiles[other] = was[block]
		}
		now := sumTold(costsTold(p, c, tiles))
		d, r := now-cost, number(1000)
		// below what the quotient is without its rest
		stands := d <= 0 || (r*d+1)*moves <= 2000*(moves-m)
		told = append(told, moveTold{swap: other >= 0, d: d, rd: r * d, bound: 2000 * (moves - m) / moves, stands: stands})
		if stands {
			cost = now
		} else {
			tiles = was
		}
	}
	return tiles, impl.OK, told
}
