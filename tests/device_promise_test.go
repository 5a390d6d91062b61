package tests

import (
	"fmt"
	"testing"

	"loop.example/g00031/impl"
)

// loadedText goes with a text through every step to the device: its flat design, the netlist of that, and what the device holds; false where there is no room for it.
func loadedText(t *testing.T, text string, seed int) (impl.Flat, impl.Net, impl.Image, bool) {
	t.Helper()
	fits := func(what string, code int, may ...int) bool {
		for _, other := range may {
			if code == other {
				return false
			}
		}
		if code != impl.OK {
			t.Fatalf("%s\n%s: code %d", text, what, code)
		}
		return true
	}
	source, _, code := impl.Preprocess([]impl.File{{Name: "top", Text: text}}, "top")
	fits("Preprocess", code)
	tree, code, _ := impl.ParseDesign(source)
	fits("ParseDesign", code)
	f, code := impl.Elaborate(tree, "top", nil)
	fits("Elaborate", code)
	n, code := impl.Lower(f)
	fits("Lower", code)
	small, code := impl.Optimise(n)
	fits("Optimise", code)
	a, code := impl.Blast(small)
	fits("Blast", code)
	a, code = impl.Rewrite(a)
	fits("Rewrite", code)
	a, code = impl.Balance(a)
	fits("Balance", code)
	mapped, code := impl.MapLuts(a, 4)
	fits("MapLuts", code)
	p, code := impl.Pack(mapped)
	fits("Pack", code)
	c := trackChip(8, 8, 8)
	tiles, code := impl.Place(p, c, seed, 300)
	if !fits("Place", code, impl.ErrFit) {
		return f, n, impl.Image{}, false
	}
	nets, code := impl.Route(p, c, tiles)
	if !fits("Route", code, impl.ErrFit) {
		return f, n, impl.Image{}, false
	}
	m, code := impl.ImageOf(p, c, tiles, nets)
	fits("ImageOf", code)
	b, code := impl.ImageBytes(m)
	fits("ImageBytes", code)
	m, code = impl.ReadImage(b)
	fits("ReadImage", code)
	return f, n, m, true
}

// holdLoadedText: the top promise of one text: outs and checks of the device are bit by bit those of the event simulator.
func holdLoadedText(t *testing.T, text string, f impl.Flat, n impl.Net, m impl.Image, steps []impl.Step) {
	t.Helper()
	r, simCode := impl.Simulate(f, stimsOfSteps(f, n, steps), 3*len(steps), nil)
	rows, code := impl.DeviceRun(m, stepsBlasted(steps))
	if simCode != impl.OK || code != impl.OK || len(rows) != len(steps) {
		t.Fatalf("%s: codes %d, %d", text, simCode, code)
	}
	told := rowsBlasted(rowsOfRun(f, n, r, len(steps)))
	for i, row := range rows {
		if fmt.Sprint(row.Outs) != fmt.Sprint(told[i].Outs) || fmt.Sprint(row.Checks) != fmt.Sprint(told[i].Checks) {
			t.Fatalf("%s\n%s\n%v: step %d: %v %v, but the simulator says %v %v", text, imageShown(m), steps, i, row.Outs, row.Checks, told[i].Outs, told[i].Checks)
		}
	}
}

// The top promise of drawn texts: the device that loads the image of a design does, step by step, what the event simulator does of its source.
func TestDevicesOfTexts(t *testing.T) {
	counts := map[string]int{}
	for seed := range uint64(300) {
		a := authorOf(seed + 1)
		text := a.text()
		f, n, m, fits := loadedText(t, text, int(seed))
		if !fits {
			counts["no room"]++
			continue
		}
		steps := smithOf(seed, 0).steps(n, 12)
		holdLoadedText(t, text, f, n, m, steps)
		counts["done"]++
		counts["registers"] += numberIf(len(m.Regs) > 1)
		counts["checks"] += numberIf(len(m.Checks) > 0)
		counts["two clocks"] += numberIf(len(m.Clocks) > 1)
		counts["many tiles"] += numberIf(len(n.Cells) > 40)
	}
	wantsOften(t, counts, 150, []string{"done", "registers", "checks"})
	wantsOften(t, counts, 60, []string{"two clocks", "many tiles"})
}

// The same of texts by hand: a counter, a register whose bits move on and come back, a stack of two with two clocks, and one that keeps its inputs in words.
func TestDevicesByHand(t *testing.T) {
	for i, text := range []string{
		"module top ( in clk , in e , out [ 2 ] q ) reg [ 2 ] r = 0 ; on clk { if e { r <= r + 1 ; } } assign q = r ; check small = r < 3 ; end",
		"module top ( in clk , in e , out [ 5 ] q ) reg [ 5 ] r = 1 ; on clk { if e { r <= { r [ 3 : 0 ] , r [ 4 ] ^ r [ 1 ] } ; } } assign q = r ; check some = | r ; end",
		"module top ( in c , in d , in [ 2 ] i , in push , out [ 2 ] a , out [ 2 ] b ) reg [ 2 ] r = 2 ; reg [ 2 ] s = 1 ; on c { if push { r <= i ; } else { r <= s ; } } on d { s <= push ? r : 2'd3 ; } assign a = r ; assign b = s ; check unlike = r != s ; end",
		"module top ( in c , in [ 2 ] at , in [ 2 ] i , in w , out [ 2 ] o ) mem [ 2 ] m [ 4 ] ; on c { if w { m [ at ] <= i ; } } assign o = m [ at ] ; end",
		"module top ( in [ 3 ] a , in signed [ 3 ] b , out [ 3 ] s , out signed [ 3 ] d ) assign s = a + b ; assign d = b - a ; check less = a < 5 || b < 0 ; end",
	} {
		f, n, m, fits := loadedText(t, text, i)
		if !fits {
			t.Fatalf("%s: there is no room for it", text)
		}
		for seed := range uint64(8) {
			holdLoadedText(t, text, f, n, m, smithOf(seed, 0).steps(n, 30))
		}
	}
}
