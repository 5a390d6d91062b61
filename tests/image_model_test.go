package tests

import (
	"fmt"
	"slices"
	"strings"

	"loop.example/g00031/impl"
)

// bytesTold are of each frame, the tiles' ahead of the rows', of each place the bytes that may stand there.
func bytesTold(m impl.Image) [][][]int {
	c := m.Chip
	tileOf := func(x, y int) int {
		if x < 0 || x >= c.Wide {
			return -1
		}
		return y*c.Wide + x
	}
	inputs, going := map[int][]int{}, map[[2]int][]int{}
	isThere := map[[3]int]bool{}
	for _, w := range wiresTold(c) {
		to := tileOf(w.toX, w.toY)
		inputs[to] = append(inputs[to], 2+w.dir*c.Tracks+w.track)
		going[[2]int{to, w.track}] = append(going[[2]int{to, w.track}], 2+w.dir)
		isThere[[3]int{tileOf(w.x, w.y), w.dir, w.track}] = true
	}
	var frames [][][]int
	for tile := range c.Wide * c.High {
		may := setOf(append(inputs[tile], 0, 1))
		places := [][]int{everyByte, everyByte, flagsTold(m, tile), may, may, may, may}
		for dir := range 4 {
			for track := range c.Tracks {
				told := []int{0}
				if isThere[[3]int{tile, dir, track}] {
					told = setOf(append(going[[2]int{tile, track}], 0, 1))
				}
				places = append(places, told)
			}
		}
		frames = append(frames, places)
	}
	for row := range c.High {
		frames = append(frames, rowBytesTold(m, row))
	}
	return frames
}

var everyByte = rising(256)

func flagsTold(m impl.Image, tile int) []int {
	if !slices.ContainsFunc(m.Regs, func(r impl.Port) bool { return r.Src == tile }) {
		return []int{0}
	}
	var flags []int
	for clock := range m.Clocks {
		flags = append(flags, 4*clock+1, 4*clock+3)
	}
	return flags
}

// rowBytesTold are of each place of a row's frame the bytes that may stand there.
func rowBytesTold(m impl.Image, row int) [][]int {
	pads := []int{0}
	for input := range m.Ins {
		if input%m.Chip.High == row {
			pads = append(pads, 1+input/m.Chip.High)
		}
	}
	places := slices.Repeat([][]int{pads}, m.Chip.Tracks)
	for pad := range m.Chip.Pads {
		tracks := []int{0}
		for end := range len(m.Outs) + len(m.Checks) {
			if end%m.Chip.High == row && end/m.Chip.High == pad {
				tracks = rising(m.Chip.Tracks + 1)
			}
		}
		places = append(places, tracks)
	}
	return places
}

func isOneOf(places [][]int, frame string) bool {
	if len(frame) != len(places) {
		return false
	}
	for place, may := range places {
		if !slices.Contains(may, int(frame[place])) {
			return false
		}
	}
	return true
}

// imageTold says what ImageOK must answer.
func imageTold(m impl.Image) bool {
	c := m.Chip
	if !chipTold(c) || len(m.Tiles) != c.Wide*c.High || len(m.Rows) != c.High {
		return false
	}
	if len(m.Ins) > c.High*c.Pads || len(m.Outs)+len(m.Checks) > c.High*c.Pads || len(m.Clocks) > 8 {
		return false
	}
	var tiles []int
	var regs []string
	for _, r := range m.Regs {
		if r.Src < 0 || r.Src >= len(m.Tiles) {
			return false
		}
		tiles, regs = append(tiles, r.Src), append(regs, r.Name)
	}
	if len(setOf(tiles)) < len(tiles) {
		return false
	}
	told := bytesTold(m)
	for number, frame := range framesTold(m) {
		if !isOneOf(told[number], frame) {
			return false
		}
	}
	return namesTold(slices.Concat(m.Ins, m.Clocks)) && namesTold(regs) && namesTold(m.Outs) && namesTold(m.Checks)
}

// comingTold is the first wire of a net that ends at a place.
func comingTold(net []impl.Hop, x, y int) impl.Hop {
	for _, h := range net {
		toX, toY := h.X, h.Y
		switch h.Dir {
		case 0:
			toX++
		case 1:
			toY++
		case 2:
			toX--
		case 3:
			toY--
		}
		if toX == x && toY == y {
			return h
		}
	}
	panic("no wire ends there")
}

// tileTold is the frame of a tile: each byte is looked for in all that there is.
func tileTold(l layout, tile int) string {
	frame := make([]byte, 7)
	x, y := tile%l.c.Wide, tile/l.c.Wide
	if block := slices.Index(l.tiles, tile); block >= 0 {
		b := l.p.Blocks[block]
		for i := range 16 {
			if b.Table>>(i%[]int{1, 2, 4, 8, 16}[len(b.In)])&1 == 1 {
				frame[i/8] |= 1 << (i % 8)
			}
		}
		if b.Reg {
			frame[2] = byte(1 + 2*b.Init + 4*b.Clock)
		}
		for k, source := range b.In {
			frame[3+k] = 1
			if source != len(l.p.Ins)+block {
				h := comingTold(l.nets[source], x, y)
				frame[3+k] = byte(2 + h.Dir*l.c.Tracks + h.Track)
			}
		}
	}
	for dir := range 4 {
		for track := range l.c.Tracks {
			told := 0
			for _, net := range l.nets {
				for _, h := range net {
					if h.X != x || h.Y != y || h.Dir != dir || h.Track != track {
						continue
					}
					told = 1
					if h.From >= 0 {
						told = 2 + net[h.From].Dir
					}
				}
			}
			frame = append(frame, byte(told))
		}
	}
	return string(frame)
}

// rowTold is the frame of a row.
func rowTold(l layout, row int) string {
	var frame []byte
	for track := range l.c.Tracks {
		told := 0
		for input := range l.p.Ins {
			for _, h := range l.nets[input] {
				if h.X == -1 && h.Y == row && h.Track == track {
					told = 1 + input/l.c.High
				}
			}
		}
		frame = append(frame, byte(told))
	}
	for pad := range l.c.Pads {
		told := 0
		if ends, end := slices.Concat(l.p.Outs, l.p.Checks), pad*l.c.High+row; end < len(ends) {
			told = 1 + comingTold(l.nets[ends[end].Src], l.c.Wide, row).Track
		}
		frame = append(frame, byte(told))
	}
	return string(frame)
}

// imageOfTold says what ImageOf must answer.
func imageOfTold(l layout) (impl.Image, int) {
	if !routeTold(l.p, l.c, l.tiles, l.nets) {
		return impl.Image{}, impl.ErrBad
	}
	m := impl.Image{Chip: l.c, Ins: l.p.Ins, Clocks: l.p.Clocks}
	for block, b := range l.p.Blocks {
		if b.Reg {
			m.Regs = append(m.Regs, impl.Port{Name: b.Name, Src: l.tiles[block]})
		}
	}
	for _, p := range l.p.Outs {
		m.Outs = append(m.Outs, p.Name)
	}
	for _, p := range l.p.Checks {
		m.Checks = append(m.Checks, p.Name)
	}
	for tile := range l.c.Wide * l.c.High {
		m.Tiles = append(m.Tiles, tileTold(l, tile))
	}
	for row := range l.c.High {
		m.Rows = append(m.Rows, rowTold(l, row))
	}
	return m, impl.OK
}

// sumOfBytesTold says what Sum16 must answer, bit by bit.
func sumOfBytesTold(b []byte) int {
	if len(b) > 65536 {
		return 0
	}
	sum := 65535
	for _, next := range b {
		for bit := 7; bit >= 0; bit-- {
			sum *= 2
			if (sum/65536%2 == 1) != (int(next)>>bit%2 == 1) {
				sum ^= 4129
			}
		}
		sum %= 65536
	}
	return sum
}

// sealed has the sum of bytes behind them.
func sealed(b []byte) []byte {
	sum := sumOfBytesTold(b)
	return append(slices.Clone(b), byte(sum/256), byte(sum%256))
}

// numberBytes are the bytes of a number, as few as can be.
func numberBytes(number int) []byte {
	if number < 128 {
		return []byte{byte(number)}
	}
	return append([]byte{byte(128 + number%128)}, numberBytes(number/128)...)
}

func nameBytes(name string) []byte {
	return append(numberBytes(len(name)), name...)
}

func namesBytes(names []string) []byte {
	b := numberBytes(len(names))
	for _, name := range names {
		b = append(b, nameBytes(name)...)
	}
	return b
}

// headBytes are those of an image ahead of its first sum.
func headBytes(m impl.Image) []byte {
	regs := numberBytes(len(m.Regs))
	for _, r := range m.Regs {
		regs = slices.Concat(regs, nameBytes(r.Name), numberBytes(r.Src))
	}
	chip := []byte{byte(m.Chip.Wide), byte(m.Chip.High), byte(m.Chip.Tracks), byte(m.Chip.Pads)}
	return slices.Concat([]byte("HI\x01"), chip, namesBytes(m.Ins), namesBytes(m.Clocks), regs, namesBytes(m.Outs), namesBytes(m.Checks))
}

// recordBytes are those of frames of which none of another kind is between.
func recordBytes(frames []string) []byte {
	var b []byte
	for len(frames) > 0 {
		count := 1
		for count < len(frames) && frames[count] == frames[0] {
			count++
		}
		b = append(b, sealed(append([]byte{byte(count)}, frames[0]...))...)
		frames = frames[count:]
	}
	return b
}

// imageBytesTold says what ImageBytes must answer.
func imageBytesTold(m impl.Image) ([]byte, int) {
	if !imageTold(m) {
		return nil, impl.ErrBad
	}
	b := slices.Concat(sealed(headBytes(m)), recordBytes(m.Tiles), recordBytes(m.Rows))
	if len(b) > 65536 {
		return nil, impl.ErrLong
	}
	return b, impl.OK
}

// imageEye goes over an image's bytes; what it sees that is wrong it throws as a code.
type imageEye struct {
	b  []byte
	at int
}

func (e *imageEye) must(holds bool, code int) {
	if !holds {
		panic(code)
	}
}

func (e *imageEye) bytes(count int) []byte {
	e.must(count <= len(e.b)-e.at, impl.ErrForm)
	e.at += count
	return e.b[e.at-count : e.at]
}

func (e *imageEye) number() int {
	from := e.at
	for e.bytes(1)[0] >= 128 {
	}
	told := e.b[from:e.at]
	e.must(len(told) <= 6 && (len(told) == 1 || told[len(told)-1] > 0), impl.ErrForm)
	number := 0
	for _, b := range slices.Backward(told) {
		number = number*128 + int(b)%128
	}
	return number
}

func (e *imageEye) list(one func()) {
	for count := e.number(); count > 0; count-- {
		one()
	}
}

func (e *imageEye) sum(of []byte) {
	told := e.bytes(2)
	e.must(int(told[0])*256+int(told[1]) == sumOfBytesTold(of), impl.ErrSum)
}

func (e *imageEye) names() []string {
	var names []string
	e.list(func() { names = append(names, string(e.bytes(e.number()))) })
	return names
}

// frames sees so many of that length.
func (e *imageEye) frames(count, length int) []string {
	var frames []string
	for len(frames) < count {
		from := e.at
		e.bytes(1 + length + 2)
		e.at -= 2
		record := e.b[from:e.at]
		e.sum(record)
		e.must(record[0] > 0 && int(record[0]) <= count-len(frames), impl.ErrForm)
		for range record[0] {
			frames = append(frames, string(record[1:]))
		}
	}
	return frames
}

func (e *imageEye) image() impl.Image {
	var m impl.Image
	e.must(string(e.bytes(3)) == "HI\x01", impl.ErrForm)
	for _, side := range []*int{&m.Chip.Wide, &m.Chip.High, &m.Chip.Tracks, &m.Chip.Pads} {
		*side = e.number()
	}
	e.must(chipTold(m.Chip), impl.ErrForm)
	m.Ins, m.Clocks = e.names(), e.names()
	e.list(func() {
		name := string(e.bytes(e.number()))
		m.Regs = append(m.Regs, impl.Port{Name: name, Src: e.number()})
	})
	m.Outs, m.Checks = e.names(), e.names()
	e.sum(e.b[:e.at])
	m.Tiles = e.frames(m.Chip.Wide*m.Chip.High, 7+4*m.Chip.Tracks)
	m.Rows = e.frames(m.Chip.High, m.Chip.Tracks+m.Chip.Pads)
	again, code := imageBytesTold(m)
	e.must(code == impl.OK && string(again) == string(e.b), impl.ErrForm)
	return m
}

// codeThrown is the code that a look throws.
func codeThrown(look func()) (code int) {
	defer func() {
		if thrown := recover(); thrown != nil {
			code = thrown.(int)
		}
	}()
	look()
	return impl.OK
}

// readImageTold says what ReadImage must answer.
func readImageTold(b []byte) (impl.Image, int) {
	var m impl.Image
	code := codeThrown(func() { m = (&imageEye{b: b}).image() })
	return m, code
}

func framesTold(m impl.Image) []string { return slices.Concat(m.Tiles, m.Rows) }

// frameSumTold is the sum of all frames, in two bytes.
func frameSumTold(m impl.Image) []byte {
	all := []byte(strings.Join(framesTold(m), ""))
	return sealed(all)[len(all):]
}

// partialTold says what PartialOf must answer.
func partialTold(a, b impl.Image) ([]byte, int) {
	if !imageTold(a) || !imageTold(b) {
		return nil, impl.ErrBad
	}
	if string(headBytes(a)) != string(headBytes(b)) {
		return nil, impl.ErrKind
	}
	var unlike []byte
	count := 0
	frames := framesTold(a)
	for number, frame := range framesTold(b) {
		if frame != frames[number] {
			unlike = slices.Concat(unlike, numberBytes(number), []byte(frame))
			count++
		}
	}
	return sealed(slices.Concat([]byte("HP\x01"), frameSumTold(a), numberBytes(count), unlike)), impl.OK
}

// applyTold says what ApplyPartial must answer.
func applyTold(a impl.Image, part []byte) (impl.Image, int) {
	if !imageTold(a) {
		return impl.Image{}, impl.ErrBad
	}
	m := copiedImage(a)
	code := codeThrown(func() {
		e := &imageEye{b: part}
		e.must(len(part) >= 7 && string(e.bytes(3)) == "HP\x01", impl.ErrForm)
		e.at = len(part) - 2
		e.sum(part[:e.at])
		e.b, e.at = part[:len(part)-2], 3
		e.must(string(e.bytes(2)) == string(frameSumTold(a)), impl.ErrSum)
		numbers, frames := []int{-1}, imageFrames(&m)
		e.list(func() {
			number := e.number()
			e.must(number > numbers[len(numbers)-1] && number < len(frames), impl.ErrForm)
			numbers = append(numbers, number)
			frame := string(e.bytes(len(*frames[number])))
			e.must(frame != *frames[number], impl.ErrForm)
			*frames[number] = frame
		})
		e.must(e.at == len(e.b) && imageTold(m), impl.ErrForm)
	})
	if code != impl.OK {
		return impl.Image{}, code
	}
	return m, impl.OK
}

// deviceTold is a device as a graph: from the name of each wire, tile and pad to the names of what it is made of.
type deviceTold struct {
	m      impl.Image
	madeOf map[string][]string
	regs   map[string]int // tiles with a register, to their numbers among Regs
	tiles  map[string]int // the others
}

func wireName(x, y, dir, track int) string {
	return fmt.Sprint("wire ", x, " ", y, " ", dir, " ", track)
}

func tileName(tile int) string { return fmt.Sprint("tile ", tile) }

func endName(end int) string { return fmt.Sprint("end ", end) }

func newDeviceTold(m impl.Image) *deviceTold {
	d := &deviceTold{m: m, madeOf: map[string][]string{}, regs: map[string]int{}, tiles: map[string]int{}}
	wires := wiresTold(m.Chip)
	// the wire of a direction and track that ends at a place
	into := func(x, y, dir, track int) string {
		for _, w := range wires {
			if w.toX == x && w.toY == y && w.dir == dir && w.track == track {
				return wireName(w.x, w.y, dir, track)
			}
		}
		panic("no such wire")
	}
	for tile, frame := range m.Tiles {
		x, y := tile%m.Chip.Wide, tile/m.Chip.Wide
		own, table := tileName(tile), tileName(tile)
		d.tiles[own] = tile
		if at := slices.IndexFunc(m.Regs, func(r impl.Port) bool { return r.Src == tile }); at >= 0 {
			table = "table of " + own
			delete(d.tiles, own)
			d.tiles[table], d.regs[own] = tile, at
		}
		for _, told := range []byte(frame[3:7]) {
			from := []string{"nothing", own}
			if told > 1 {
				from = append(from, into(x, y, int(told-2)/m.Chip.Tracks, int(told-2)%m.Chip.Tracks))
			}
			d.madeOf[table] = append(d.madeOf[table], from[min(told, 2)])
		}
		for i, told := range []byte(frame[7:]) {
			from := []string{"nothing", own}
			if told > 1 {
				from = append(from, into(x, y, int(told-2), i%m.Chip.Tracks))
			}
			d.madeOf[wireName(x, y, i/m.Chip.Tracks, i%m.Chip.Tracks)] = []string{from[min(told, 2)]}
		}
	}
	for row, frame := range m.Rows {
		for track, told := range []byte(frame[:m.Chip.Tracks]) {
			from := "nothing"
			if told > 0 {
				from = fmt.Sprint("input ", int(told-1)*m.Chip.High+row)
			}
			d.madeOf[wireName(-1, row, 0, track)] = []string{from}
		}
		for pad, told := range []byte(frame[m.Chip.Tracks:]) {
			from := "nothing"
			if told > 0 {
				from = wireName(m.Chip.Wide-1, row, 0, int(told)-1)
			}
			d.madeOf[endName(pad*m.Chip.High+row)] = []string{from}
		}
	}
	return d
}

// reached are all names that outs, checks and the tables of registers hang on.
func (d *deviceTold) reached() []string {
	var names []string
	for end := range len(d.m.Outs) + len(d.m.Checks) {
		names = append(names, endName(end))
	}
	for own := range d.regs {
		names = append(names, "table of "+own)
	}
	seen := map[string]bool{}
	for _, name := range names {
		seen[name] = true
	}
	for at := 0; at < len(names); at++ {
		for _, from := range d.madeOf[names[at]] {
			if !seen[from] {
				seen[from] = true
				names = append(names, from)
			}
		}
	}
	return names
}

// loops tells whether something of what is reached hangs on itself: then it stays when all that hangs on nothing more is taken away.
func (d *deviceTold) loops() bool {
	left := map[string]bool{}
	for _, name := range d.reached() {
		left[name] = true
	}
	for again := true; again; {
		again = false
		for name := range left {
			if !slices.ContainsFunc(d.madeOf[name], func(from string) bool { return left[from] }) {
				delete(left, name)
				again = true
			}
		}
	}
	return len(left) > 0
}

// value is what a name is, of the inputs and what the registers have.
func (d *deviceTold) value(name string, ins, regs []string, known map[string]string) string {
	if was, isKnown := known[name]; isKnown {
		return was
	}
	value := "0"
	number := 0
	if _, err := fmt.Sscanf(name, "input %d", &number); err == nil {
		value = ins[number]
	} else if at, isReg := d.regs[name]; isReg {
		value = regs[at]
	} else if tile, isTile := d.tiles[name]; isTile {
		frame, row := d.m.Tiles[tile], 0
		for k, from := range d.madeOf[name] {
			row += numberIf(d.value(from, ins, regs, known) == "1") << k
		}
		value = fmt.Sprint(frame[row/8] >> (row % 8) & 1)
	} else if name != "nothing" {
		value = d.value(d.madeOf[name][0], ins, regs, known)
	}
	known[name] = value
	return value
}

// deviceRunTold says what DeviceRun must answer.
func deviceRunTold(m impl.Image, steps []impl.Step) ([]impl.Row, int) {
	if len(steps) > 4096 {
		return nil, impl.ErrLong
	}
	if !imageTold(m) {
		return nil, impl.ErrBad
	}
	for _, s := range steps {
		wrong := func(bit string) bool { return bit != "0" && bit != "1" }
		if len(s.Ins) != len(m.Ins) || len(s.Ticks) != len(m.Clocks) || slices.ContainsFunc(s.Ins, wrong) {
			return nil, impl.ErrBad
		}
	}
	d := newDeviceTold(m)
	if d.loops() {
		return nil, impl.ErrLoop
	}
	var regs []string
	for _, r := range m.Regs {
		regs = append(regs, fmt.Sprint(m.Tiles[r.Src][2]>>1&1))
	}
	var rows []impl.Row
	for _, s := range steps {
		was, known := slices.Clone(regs), map[string]string{}
		for i, r := range m.Regs {
			if s.Ticks[m.Tiles[r.Src][2]>>2] {
				regs[i] = d.value("table of "+tileName(r.Src), s.Ins, was, known)
			}
		}
		known = map[string]string{}
		row := impl.Row{Regs: slices.Clone(regs)}
		for end := range len(m.Outs) + len(m.Checks) {
			bit := d.value(endName(end), s.Ins, regs, known)
			if end < len(m.Outs) {
				row.Outs = append(row.Outs, bit)
			} else {
				row.Checks = append(row.Checks, bit)
			}
		}
		rows = append(rows, row)
	}
	return rows, impl.OK
}
