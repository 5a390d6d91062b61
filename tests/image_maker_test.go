package tests

import (
	"encoding/hex"
	"fmt"
	"slices"
	"strings"
	"testing"

	"loop.example/g00031/impl"
)

// frameRead reads a frame's bytes in hex; the points between them are for the eye.
func frameRead(text string) string {
	b, err := hex.DecodeString(strings.ReplaceAll(text, ".", ""))
	if err != nil {
		panic(text)
	}
	return string(b)
}

// imageRead reads an image: its chip as 2,1,2,2, inputs, clocks, registers with their tiles as r:0, outs, checks, the tiles' frames and the rows', with `|` between them.
func imageRead(text string) impl.Image {
	parts := strings.Split(text, "|")
	of := numbersRead(strings.ReplaceAll(parts[0], ",", " "))
	m := impl.Image{Chip: impl.Chip{Wide: of[0], High: of[1], Tracks: of[2], Pads: of[3]}, Regs: portsRead(parts[3])}
	for i, list := range []*[]string{&m.Ins, &m.Clocks, nil, &m.Outs, &m.Checks} {
		if list != nil {
			*list = strings.Fields(parts[1+i])
		}
	}
	for i, list := range []*[]string{&m.Tiles, &m.Rows} {
		for word := range strings.FieldsSeq(parts[6+i]) {
			*list = append(*list, frameRead(word))
		}
	}
	return m
}

// frameWritten puts a point ahead of these places, and behind the last one each so many bytes further on.
func frameWritten(frame string, every int, places ...int) string {
	text := ""
	for i := range frame {
		last := places[len(places)-1]
		if slices.Contains(places, i) || i > last && every > 0 && (i-last)%every == 0 {
			text += "."
		}
		text += fmt.Sprintf("%02x", frame[i])
	}
	return text
}

// imageWritten writes an image as imageRead reads it.
func imageWritten(m impl.Image) string {
	parts := []string{fmt.Sprint(m.Chip.Wide, ",", m.Chip.High, ",", m.Chip.Tracks, ",", m.Chip.Pads)}
	for _, list := range [][]string{m.Ins, m.Clocks, portsWritten(m.Regs), m.Outs, m.Checks} {
		parts = append(parts, strings.Join(list, " "))
	}
	var tiles, rows []string
	for _, frame := range m.Tiles {
		tiles = append(tiles, frameWritten(frame, m.Chip.Tracks, 2, 3, 7))
	}
	for _, frame := range m.Rows {
		rows = append(rows, frameWritten(frame, 0, m.Chip.Tracks))
	}
	return strings.Join(append(parts, strings.Join(tiles, " "), strings.Join(rows, " ")), " | ")
}

// imageShown writes an image with names of any bytes.
func imageShown(m impl.Image) string {
	return fmt.Sprintf("%v %+q %+q %+q %+q %+q ", m.Chip, m.Ins, m.Clocks, portsWritten(m.Regs), m.Outs, m.Checks) + imageWritten(impl.Image{Chip: m.Chip, Tiles: m.Tiles, Rows: m.Rows})
}

// theImage has on a chip of 2 by 1 tiles a register of a, which begins as 1, and a table of it and b, which goes out.
const theImage = "2,1,2,2 | a b | c | r:0 | y |  | aaaa.03.02000000.0102.0000.0000.0000 8888.00.03020000.0100.0000.0000.0000 | 0102.0100"

// image draws one with any bytes that may stand in it; of these so many out of ten are not 0.
func (d *draughtsman) image(full int) impl.Image {
	m := impl.Image{Chip: impl.Chip{Wide: 1 + d.below(4), High: 1 + d.below(4), Tracks: 1 + d.below(4), Pads: 1 + d.below(4)}}
	if d.below(10) == 0 {
		m.Chip = d.chip()
	}
	pads := m.Chip.High * m.Chip.Pads
	ins, clocks, outs := d.below(pads+1), 1+d.below(8), d.below(pads+1)
	checks := d.below(pads - outs + 1)
	names := d.names(ins + clocks)
	m.Ins, m.Clocks = names[:ins:ins], names[ins:]
	m.Outs, m.Checks = d.names(outs), d.names(checks)
	tiles := mixed(&d.choices, rising(m.Chip.Wide*m.Chip.High))
	for i, name := range d.names(d.below(len(tiles) + 1)) {
		m.Regs = append(m.Regs, impl.Port{Name: name, Src: tiles[i]})
	}
	drawn := func(places [][]int) string {
		var frame []byte
		for _, may := range places {
			told := may[d.below(len(may))]
			if slices.Contains(may, 0) && d.below(10) >= full {
				told = 0
			}
			frame = append(frame, byte(told))
		}
		return string(frame)
	}
	var frames []string
	for _, places := range bytesTold(m) {
		frames = append(frames, drawn(places))
	}
	m.Tiles, m.Rows = frames[:len(tiles):len(tiles)], frames[len(tiles):]
	return m
}

// anyImage is one of ImageOf, or one with any bytes.
func (d *draughtsman) anyImage() impl.Image {
	if d.below(2) == 0 {
		return d.image(d.below(11))
	}
	_, m := d.toLoad()
	return m
}

// layout is what ImageOf is given.
type layout struct {
	p     impl.Packed
	c     impl.Chip
	tiles []int
	nets  [][]impl.Hop
}

func (l layout) image() (impl.Image, int) {
	return impl.ImageOf(l.p, l.c, l.tiles, l.nets)
}

func (l layout) String() string {
	return fmt.Sprintf("%s on %v: %v: %s", packWritten(l.p), l.c, l.tiles, netsWritten(l.nets))
}

// layout draws a design that was placed and routed; the nets are those of Route, or wild ones.
func (d *draughtsman) layout() layout {
	for {
		p, c, tiles := d.toRoute()
		if d.below(2) == 0 {
			if nets, code := impl.Route(p, c, tiles); code == impl.OK {
				return layout{p, c, tiles, nets}
			}
			continue
		}
		c.Tracks = max(c.Tracks, 4)
		if nets, ok := d.wildNets(p, c, tiles); ok {
			return layout{p, c, tiles, nets}
		}
	}
}

// toLoad draws such a design and its image.
func (d *draughtsman) toLoad() (layout, impl.Image) {
	l := d.layout()
	m, _ := l.image()
	return l, m
}

// imageFrames are all frames of an image, so that they can be changed.
func imageFrames(m *impl.Image) []*string {
	var frames []*string
	for _, list := range [][]string{m.Tiles, m.Rows} {
		for i := range list {
			frames = append(frames, &list[i])
		}
	}
	return frames
}

// withByte has another byte at a place.
func withByte(frame string, place, to int) string {
	return frame[:place] + string([]byte{byte(to)}) + frame[place+1:]
}

// imageNames are all names of an image, so that they can be changed.
func imageNames(m *impl.Image) []*string {
	var names []*string
	for _, list := range [][]string{m.Ins, m.Clocks, m.Outs, m.Checks} {
		for i := range list {
			names = append(names, &list[i])
		}
	}
	for i := range m.Regs {
		names = append(names, &m.Regs[i].Name)
	}
	return names
}

// bentImage changes one piece of an image.
func (d *draughtsman) bentImage(m *impl.Image) {
	frames, names := imageFrames(m), imageNames(m)
	frame := frames[d.below(len(frames))]
	kind := d.below(12)
	switch {
	case kind == 0:
		field := []*int{&m.Chip.Wide, &m.Chip.High, &m.Chip.Tracks, &m.Chip.Pads}[d.below(4)]
		*field += []int{1, -1, 8, -1 << 63, 1<<63 - 1}[d.below(5)]
	case kind == 1:
		list := []*[]string{&m.Tiles, &m.Rows}[d.below(2)]
		*list = append(*list, (*list)[0])[d.below(3)%2:]
	case kind == 2:
		*frame = []string{*frame + "\x00", (*frame)[1:], (*frame)[:len(*frame)-1], ""}[d.below(4)]
	case kind == 3 && len(m.Regs) > 0:
		m.Regs[d.below(len(m.Regs))].Src = []int{0, -1, 1, len(m.Tiles) - 1, len(m.Tiles), d.below(len(m.Tiles)), 1 << 40}[d.below(7)]
	case kind == 4 && len(m.Regs) > 0:
		m.Regs = m.Regs[1:]
	case kind == 5:
		m.Regs = append(m.Regs, impl.Port{Name: d.names(1)[0], Src: d.below(len(m.Tiles))})
	case kind == 6:
		list := []*[]string{&m.Ins, &m.Clocks, &m.Outs, &m.Checks}[d.below(4)]
		*list = append(*list, d.names(40)[0])
	case kind == 7:
		list := []*[]string{&m.Ins, &m.Clocks, &m.Outs, &m.Checks}[d.below(4)]
		*list = (*list)[:len(*list)/2]
	case kind == 8 && len(names) > 0:
		name := names[d.below(len(names))]
		*name = d.oneOf("", *name+"0", "x", *names[d.below(len(names))], strings.Repeat("n", 1000), strings.Repeat("n", 1001))
	case len(*frame) > 0:
		place := d.below(len(*frame))
		was := int((*frame)[place])
		*frame = withByte(*frame, place, []int{was + 1, was - 1, 0, 1, 2, d.below(40), 255, d.below(256)}[d.below(8)])
	}
}

func roomyImage(m impl.Image) impl.Image {
	behind := func(list []string) []string { return roomyList(list, "behind") }
	return impl.Image{
		Chip: m.Chip, Ins: behind(m.Ins), Clocks: behind(m.Clocks), Regs: roomyList(m.Regs, impl.Port{Name: "behind"}),
		Outs: behind(m.Outs), Checks: behind(m.Checks), Tiles: behind(m.Tiles), Rows: behind(m.Rows),
	}
}

// wholeImage writes an image out with what stands behind its lists.
func wholeImage(m impl.Image) string {
	text := fmt.Sprint(m.Chip, m.Regs[:cap(m.Regs)])
	for _, list := range [][]string{m.Ins, m.Clocks, m.Outs, m.Checks, m.Tiles, m.Rows} {
		text += fmt.Sprintf("%+q", list[:cap(list)])
	}
	return text
}

func imageApart(t *testing.T, m impl.Image, seen map[any]bool) {
	t.Helper()
	for _, list := range [][]string{m.Ins, m.Clocks, m.Outs, m.Checks, m.Tiles, m.Rows} {
		listApart(t, list, seen)
	}
	listApart(t, m.Regs, seen)
}

// overwriteImage writes over all that is in an image, and behind the ends of its lists.
func overwriteImage(m impl.Image) {
	for _, list := range [][]string{m.Ins, m.Clocks, m.Outs, m.Checks, m.Tiles, m.Rows} {
		overwriteList(list, "over")
	}
	overwriteList(m.Regs, impl.Port{Name: "over", Src: -9})
}

func overwriteRows(rows []impl.Row) {
	for _, row := range rows {
		overwriteList(row.Outs, "over")
		overwriteList(row.Checks, "over")
		overwriteList(row.Regs, "over")
	}
	overwriteList(rows, impl.Row{})
}

// copiedImage shares no list with another one.
func copiedImage(m impl.Image) impl.Image {
	m.Ins, m.Clocks, m.Regs = slices.Clone(m.Ins), slices.Clone(m.Clocks), slices.Clone(m.Regs)
	m.Outs, m.Checks = slices.Clone(m.Outs), slices.Clone(m.Checks)
	m.Tiles, m.Rows = slices.Clone(m.Tiles), slices.Clone(m.Rows)
	return m
}
