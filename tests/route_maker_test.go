package tests

import (
	"fmt"
	"slices"
	"strings"
	"testing"

	"loop.example/g00031/impl"
)

// netsRead reads nets with `|` between them: a wire is X, Y, Dir and Track, as 0,1,3,0, and behind a < its From if it is not -1; none is no net at all.
func netsRead(text string) [][]impl.Hop {
	if text == "none" {
		return nil
	}
	var nets [][]impl.Hop
	for part := range strings.SplitSeq(text, "|") {
		var net []impl.Hop
		for word := range strings.FieldsSeq(part) {
			wire, from, isBehind := strings.Cut(word, "<")
			of := numbersRead(strings.ReplaceAll(wire, ",", " "))
			h := impl.Hop{X: of[0], Y: of[1], Dir: of[2], Track: of[3], From: -1}
			if isBehind {
				h.From = numberRead(from)
			}
			net = append(net, h)
		}
		nets = append(nets, net)
	}
	return nets
}

// netsWritten writes nets as netsRead reads them.
func netsWritten(nets [][]impl.Hop) string {
	if len(nets) == 0 {
		return "none"
	}
	var parts []string
	for _, net := range nets {
		var words []string
		for _, h := range net {
			word := fmt.Sprint(h.X, ",", h.Y, ",", h.Dir, ",", h.Track)
			if h.From != -1 {
				word += fmt.Sprint("<", h.From)
			}
			words = append(words, word)
		}
		parts = append(parts, strings.Join(words, " "))
	}
	return strings.Join(parts, " | ")
}

// narrowChip is a chip with room for a design, but with few tracks and tiles, so that nets meet.
func (d *draughtsman) narrowChip(p impl.Packed) impl.Chip {
	c := d.roomyChip(p)
	for range 6 {
		if other := d.roomyChip(p); other.Wide*other.High < c.Wide*c.High {
			c = other
		}
	}
	c.Tracks = 1 + d.below(4)
	return c
}

// toRoute draws a design, a chip and its tiles: one of all kinds of blocks, or one of Pack.
func (d *draughtsman) toRoute() (impl.Packed, impl.Chip, []int) {
	p := d.packed(d.below(5), d.below(10))
	if d.below(3) == 0 {
		p = d.packOfGraph()
	}
	c := d.narrowChip(p)
	if d.below(6) == 0 {
		c = d.roomyChip(p)
	}
	if d.below(3) > 0 {
		return p, c, d.tiles(p, c)
	}
	tiles, _ := impl.Place(p, c, d.below(1<<31), d.below(60))
	return p, c, tiles
}

// packOfGraph is a graph mapped and packed that a chip has room for.
func (d *draughtsman) packOfGraph() impl.Packed {
	for {
		a := d.any()
		if d.below(2) == 0 {
			a = d.anyTangled()
		}
		m, _ := impl.MapLuts(a, 2+d.below(3))
		p, code := impl.Pack(m)
		if code == impl.OK && len(p.Blocks) <= 24 && max(len(p.Ins), len(p.Outs)+len(p.Checks)) <= 20 {
			return p
		}
	}
}

// bentNets changes one piece of nets.
func (d *draughtsman) bentNets(nets [][]impl.Hop) [][]impl.Hop {
	var wires []*impl.Hop
	var netsOfWires []int
	for i, net := range nets {
		for k := range net {
			wires, netsOfWires = append(wires, &net[k]), append(netsOfWires, i)
		}
	}
	kind := d.below(10)
	switch {
	case kind == 0:
		return append(nets, nil)
	case kind == 1 && len(nets) > 0:
		at := d.below(len(nets))
		return slices.Delete(nets, at, at+1)
	case kind == 2 && len(nets) > 1:
		at := d.below(len(nets) - 1)
		nets[at], nets[at+1] = nets[at+1], nets[at]
	case kind == 3 && len(wires) > 0:
		// a net without its last wire
		at := netsOfWires[d.below(len(wires))]
		nets[at] = nets[at][:len(nets[at])-1]
	case kind == 4 && len(wires) > 0:
		// one more wire, which may be there and free
		at := netsOfWires[d.below(len(wires))]
		h := nets[at][d.below(len(nets[at]))]
		h.Dir = d.below(4)
		nets[at] = append(nets[at], h)
	case kind == 5 && len(wires) > 1:
		a, b := d.below(len(wires)), d.below(len(wires))
		*wires[a], *wires[b] = *wires[b], *wires[a]
	case kind == 6 && len(wires) > 0:
		wires[d.below(len(wires))].From = d.below(4) - 1
	case len(wires) > 0:
		h := wires[d.below(len(wires))]
		piece := []*int{&h.X, &h.Y, &h.Dir, &h.Track, &h.From}[d.below(5)]
		*piece += []int{1, -1, 2, -2, 1 << 40, -1 << 63}[d.below(6)]
	}
	return nets
}

func roomyNets(nets [][]impl.Hop) [][]impl.Hop {
	var all [][]impl.Hop
	for _, net := range nets {
		all = append(all, roomyList(net, impl.Hop{X: -7}))
	}
	return roomyList(all, []impl.Hop{{X: -7}})
}

// wholeNets writes nets out with what stands behind the lists.
func wholeNets(nets [][]impl.Hop) string {
	text := ""
	for _, net := range nets[:cap(nets)] {
		text += fmt.Sprint(net[:cap(net)])
	}
	return text
}

func netsApart(t *testing.T, nets [][]impl.Hop, seen map[any]bool) {
	t.Helper()
	listApart(t, nets, seen)
	for _, net := range nets {
		listApart(t, net, seen)
	}
}
