package tests

import (
	"bytes"
	"fmt"
	"slices"
	"strings"
	"sync"
	"testing"

	"loop.example/g00031/impl"
)

// holdImage holds ImageOK and ImageBytes of an image against what is told of them, and ReadImage of its bytes against itself.
func holdImage(t *testing.T, m impl.Image) ([]byte, int) {
	t.Helper()
	ok := imageTold(m)
	b, code := impl.ImageBytes(m)
	want, wantCode := imageBytesTold(m)
	if impl.ImageOK(m) != ok || code != wantCode || !bytes.Equal(b, want) {
		t.Fatalf("%s\nImageOK %v, want %v; code %d, want %d\n%x, want\n%x", imageShown(m), impl.ImageOK(m), ok, code, wantCode, b, want)
	}
	if code != impl.OK {
		return nil, code
	}
	back, code := impl.ReadImage(b)
	if code != impl.OK || imageShown(back) != imageShown(m) {
		t.Fatalf("%s: code %d, read as\n%s", imageShown(m), code, imageShown(back))
	}
	return b, code
}

// holdImageOf holds ImageOf against what is told of it.
func holdImageOf(t *testing.T, l layout) (impl.Image, int) {
	t.Helper()
	m, code := l.image()
	want, wantCode := imageOfTold(l)
	if code != wantCode || imageShown(m) != imageShown(want) {
		t.Fatalf("%v: code %d, want %d\n%s, want\n%s", l, code, wantCode, imageShown(m), imageShown(want))
	}
	return m, code
}

// holdDevice holds DeviceRun against what is told of it.
func holdDevice(t *testing.T, m impl.Image, steps []impl.Step) ([]impl.Row, int) {
	t.Helper()
	rows, code := impl.DeviceRun(m, steps)
	want, wantCode := deviceRunTold(m, steps)
	if code != wantCode || rowsShown(rows) != rowsShown(want) {
		t.Fatalf("%s\n%v: code %d, want %d\n%s, want\n%s", imageShown(m), steps, code, wantCode, rowsShown(rows), rowsShown(want))
	}
	return rows, code
}

// holdLoaded: promise 20 of one design: its image, and the one that comes back from the bytes, do what the packed design does.
func holdLoaded(t *testing.T, l layout, steps []impl.Step) impl.Image {
	t.Helper()
	m, code := holdImageOf(t, l)
	rows, packCode := impl.PackRun(l.p, steps)
	if code != impl.OK || packCode != impl.OK || !impl.ImageOK(m) {
		t.Fatalf("%v: codes %d, %d", l, code, packCode)
	}
	images := []impl.Image{m}
	b, code := holdImage(t, m)
	if code == impl.OK {
		back, _ := impl.ReadImage(b)
		images = append(images, back)
	} else if code != impl.ErrLong {
		t.Fatalf("%v: code %d", l, code)
	}
	for _, image := range images {
		told, code := impl.DeviceRun(image, steps)
		if code != impl.OK || rowsShown(told) != rowsShown(rows) {
			t.Fatalf("%v\n%s\n%v: code %d, %s, want\n%s", l, imageShown(image), steps, code, rowsShown(told), rowsShown(rows))
		}
	}
	return m
}

// stepsOfPack are drawn steps of a packed design.
func (d *draughtsman) stepsOfPack(p impl.Packed, count int) []impl.Step {
	return d.steps(impl.Aig{Ins: p.Ins, Clocks: p.Clocks}, count)
}

// Promise 20 of drawn designs that were placed and routed; what was answered is written over, and all is called again with the same arguments.
func TestImagesDrawn(t *testing.T) {
	counts := map[string]int{}
	for seed := range uint64(1500) {
		d := draughtsmanOf(seed + 220000)
		l := d.layout()
		steps := d.stepsOfPack(l.p, d.below(9))
		was := l.String()
		m := holdLoaded(t, l, steps)
		countLayout(counts, l)
		holdDevice(t, m, steps)
		shown := imageShown(m)
		b, code := impl.ImageBytes(m)
		if code == impl.OK {
			back, _ := impl.ReadImage(b)
			copied := slices.Clone(b)
			overwriteImage(back)
			if !bytes.Equal(b, copied) {
				t.Fatalf("%s: its bytes were changed", shown)
			}
			overwriteList(b, 77)
		}
		rows, _ := impl.DeviceRun(m, steps)
		overwriteRows(rows)
		if imageShown(m) != shown {
			t.Fatalf("%s, then %s", shown, imageShown(m))
		}
		overwriteImage(m)
		again := holdLoaded(t, l, steps)
		if l.String() != was || imageShown(again) != shown {
			t.Fatalf("%s\n%s, then\n%v\n%s", was, shown, l, imageShown(again))
		}
	}
	wantsOften(t, counts, 200, []string{
		"0 inputs", "1 inputs", "2 inputs", "3 inputs", "4 inputs", "a register", "it begins as 1", "another clock", "it reads itself",
		"an input on its way", "a net that branches", "a wire from the source", "a wire that goes on", "a later wire to a tile", "a later wire to a pad", "a tile with wires alone", "a tile with nothing", "a further pad", "a check",
		"on from dir 0", "on from dir 1", "on from dir 2", "on from dir 3",
	})
}

// countLayout counts what there is to an image.
func countLayout(counts map[string]int, l layout) {
	for block, b := range l.p.Blocks {
		counts[fmt.Sprint(len(b.In), " inputs")]++
		counts["a register"] += numberIf(b.Reg)
		counts["it begins as 1"] += numberIf(b.Init > 0)
		counts["another clock"] += numberIf(b.Clock > 0)
		counts["it reads itself"] += numberIf(slices.Contains(b.In, len(l.p.Ins)+block))
	}
	wired := map[int]bool{}
	for source, net := range l.nets {
		goingOn := map[int]int{}
		ends := map[[2]int]int{}
		for _, h := range net {
			counts["an input on its way"] += numberIf(source < len(l.p.Ins) && h.From >= 0)
			goingOn[h.From]++
			if h.X >= 0 {
				wired[h.Y*l.c.Wide+h.X] = true
			}
			counts["a wire from the source"] += numberIf(h.From < 0)
			if h.From >= 0 {
				counts["a wire that goes on"]++
				counts[fmt.Sprint("on from dir ", net[h.From].Dir)]++
			}
			ends[[2]int{h.X + []int{1, 0, -1, 0}[h.Dir], h.Y + []int{0, 1, 0, -1}[h.Dir]}]++
		}
		for from, count := range goingOn {
			counts["a net that branches"] += numberIf(from >= 0 && count > 1)
		}
		for _, goal := range goalsTold(l.p, l.c, l.tiles, source) {
			if ends[[2]int{goal.x, goal.y}] > 1 {
				counts["a later wire to a tile"] += numberIf(goal.x < l.c.Wide)
				counts["a later wire to a pad"] += numberIf(goal.x == l.c.Wide)
			}
		}
	}
	for tile := range l.c.Wide * l.c.High {
		isFree := !slices.Contains(l.tiles, tile)
		counts["a tile with wires alone"] += numberIf(isFree && wired[tile])
		counts["a tile with nothing"] += numberIf(isFree && !wired[tile])
	}
	counts["a further pad"] += numberIf(len(l.p.Ins) > l.c.High || len(l.p.Outs)+len(l.p.Checks) > l.c.High)
	counts["a check"] += len(l.p.Checks)
}

// Promise 20 of the greatest chip with as many blocks, inputs and outs as it has room for.
func TestImagesWhole(t *testing.T) {
	for seed := range uint64(3) {
		d := draughtsmanOf(seed + 225000)
		p := d.packed(32, 64)
		p.Outs, p.Checks = nil, nil
		for i := range 16 {
			p.Outs = append(p.Outs, impl.Port{Name: fmt.Sprint("y", i), Src: d.below(96)})
			p.Checks = append(p.Checks, impl.Port{Name: fmt.Sprint("k", i), Src: d.below(96)})
		}
		l := layout{p: p, c: trackChip(8, 8, 8)}
		l.tiles, _ = impl.Place(p, l.c, int(seed), 1000)
		l.nets, _ = impl.Route(p, l.c, l.tiles)
		holdLoaded(t, l, d.stepsOfPack(p, 60))
	}
}

// recordsFrom is where the first record stands, behind the names and their sum.
func recordsFrom(m impl.Image) int { return len(headBytes(m)) + 2 }

// Promise 20: one byte that was changed behind the names and their sum is told, of a few images each byte by each other one.
func TestImageBytesChanged(t *testing.T) {
	changed := 0
	for seed := range uint64(600) {
		d := draughtsmanOf(seed + 230000)
		m := d.anyImage()
		b, code := impl.ImageBytes(m)
		if code != impl.OK {
			continue
		}
		every := seed%100 < 2 && len(b) < 1500
		for at := recordsFrom(m); at < len(b); at++ {
			was := b[at]
			others := []int{(int(was) + 1 + d.below(255)) % 256}
			if every {
				others = rising(256)
			}
			for _, other := range others {
				b[at] = byte(other)
				got, code := impl.ReadImage(b)
				if b[at] != was && (code != impl.ErrSum || imageShown(got) != imageShown(impl.Image{})) {
					t.Fatalf("%s: byte %d from %d to %d: code %d", imageShown(m), at, was, other, code)
				}
				changed++
			}
			b[at] = was
		}
	}
	if changed < 200000 {
		t.Errorf("only %d", changed)
	}
}

// Images with any bytes run as told, come back from their bytes, and are what they are told to be.
func TestImagesOfAnyBytes(t *testing.T) {
	counts := map[string]int{}
	for seed := range uint64(3000) {
		d := draughtsmanOf(seed + 240000)
		m := d.image(d.below(11))
		if !imageTold(m) {
			t.Fatalf("%s: no image", imageShown(m))
		}
		holdImage(t, m)
		steps := d.steps(impl.Aig{Ins: m.Ins, Clocks: m.Clocks}, d.below(6))
		_, code := holdDevice(t, m, steps)
		counts[fmt.Sprint("code ", code)]++
		if code == impl.ErrLoop {
			counts["a loop "+newDeviceTold(m).knot()]++
		} else if newDeviceTold(m).loopsAnywhere() {
			counts["a loop that nothing comes to"]++
		}
	}
	wantsOften(t, counts, 600, []string{"code 0", "code 12"})
	wantsOften(t, counts, 100, []string{"a loop of wires", "a loop of wires and tables", "a loop that nothing comes to"})
	wantsOften(t, counts, 30, []string{"a loop of tables"})
}

// core are the names that hang on themselves, and those between two such.
func (d *deviceTold) core(names []string) []string {
	left := map[string]bool{}
	for _, name := range names {
		left[name] = true
	}
	for again := true; again; {
		again = false
		read := map[string]bool{}
		for name := range left {
			for _, from := range d.madeOf[name] {
				read[from] = true
			}
		}
		for name := range left {
			isMade := slices.ContainsFunc(d.madeOf[name], func(from string) bool { return left[from] })
			if !isMade || !read[name] {
				delete(left, name)
				again = true
			}
		}
	}
	var core []string
	for name := range left {
		core = append(core, name)
	}
	return core
}

// knot tells what the loops that are come to are made of.
func (d *deviceTold) knot() string {
	wires, tables := false, false
	for _, name := range d.core(d.reached()) {
		wires = wires || strings.HasPrefix(name, "wire")
		tables = tables || strings.HasPrefix(name, "tile")
	}
	switch {
	case !tables:
		return "of wires"
	case !wires:
		return "of tables"
	}
	return "of wires and tables"
}

func (d *deviceTold) loopsAnywhere() bool {
	var names []string
	for name := range d.madeOf {
		names = append(names, name)
	}
	return len(d.core(names)) > 0
}

// An image with one piece changed is one where the chapter's rules say so; else all calls have ErrBad.
func TestBentImages(t *testing.T) {
	right, wrong := 0, 0
	for seed := range uint64(7000) {
		d := draughtsmanOf(seed + 250000)
		m := d.anyImage()
		was := copiedImage(m)
		d.bentImage(&m)
		holdImage(t, m)
		if imageTold(m) {
			right++
			continue
		}
		wrong++
		rows, code := impl.DeviceRun(m, nil)
		part, partCode := impl.PartialOf(m, was)
		other, otherCode := impl.PartialOf(was, m)
		made, madeCode := impl.ApplyPartial(m, []byte("HP\x01"))
		if code != impl.ErrBad || partCode != impl.ErrBad || otherCode != impl.ErrBad || madeCode != impl.ErrBad || len(rows)+len(part)+len(other) > 0 || imageShown(made) != imageShown(impl.Image{}) {
			t.Fatalf("%s: codes %d, %d, %d, %d", imageShown(m), code, partCode, otherCode, madeCode)
		}
	}
	if right < 1200 || wrong < 3000 {
		t.Errorf("%d right, %d wrong", right, wrong)
	}
}

// What was not routed has no image.
func TestBentLayouts(t *testing.T) {
	right, wrong := 0, 0
	for seed := range uint64(3000) {
		d := draughtsmanOf(seed + 270000)
		l := d.layout()
		switch d.below(4) {
		case 0:
			d.bentPack(&l.p)
		case 1:
			field := []*int{&l.c.Wide, &l.c.High, &l.c.Tracks, &l.c.Pads}[d.below(4)]
			*field += []int{1, -1, 9, -1 << 63, 1<<63 - 1}[d.below(5)]
		case 2:
			if len(l.tiles) > 0 {
				l.tiles[d.below(len(l.tiles))] += []int{1, -1, 64}[d.below(3)]
			}
		default:
			l.nets = d.bentNets(l.nets)
		}
		_, code := holdImageOf(t, l)
		if code == impl.OK {
			holdLoaded(t, l, d.stepsOfPack(l.p, 4))
		}
		right += numberIf(code == impl.OK)
		wrong += numberIf(code == impl.ErrBad)
	}
	if right < 400 || wrong < 1000 {
		t.Errorf("%d right, %d wrong", right, wrong)
	}
}

// holdImageRead holds ReadImage against what is told of it.
func holdImageRead(t *testing.T, b []byte) int {
	t.Helper()
	got, code := impl.ReadImage(b)
	want, wantCode := readImageTold(b)
	if code != wantCode || imageShown(got) != imageShown(want) {
		t.Fatalf("%x: code %d, want %d\n%s, want\n%s", b, code, wantCode, imageShown(got), imageShown(want))
	}
	return code
}

// Bytes of images with something changed in them, often with sums that fit again, are read as told.
func TestImageBytesBent(t *testing.T) {
	counts := map[string]int{}
	for seed := range uint64(8000) {
		d := draughtsmanOf(seed + 280000)
		m := d.anyImage()
		if code := holdImageRead(t, d.bentImageBytes(m)); code != impl.OK {
			counts[fmt.Sprint("code ", code)]++
		} else {
			counts["read"]++
		}
	}
	wantsOften(t, counts, 1000, []string{"code 3", "code 16"})
	wantsOften(t, counts, 300, []string{"read"})
}

// bentPlaces changes one byte out of those from a place on, takes some away or puts some between.
func (d *draughtsman) bentPlaces(b []byte, from int) []byte {
	b = slices.Clone(b)
	if from >= len(b) {
		return b
	}
	at := from + d.below(len(b)-from)
	switch d.below(6) {
	case 0:
		return b[:at]
	case 1:
		return slices.Delete(b, at, at+1)
	case 2:
		return slices.Insert(b, at, byte(d.below(256)))
	case 3:
		// a number with a needless byte, if a number stands there
		return slices.Concat(b[:at], []byte{b[at] | 128, 0}, b[at+1:])
	}
	b[at] = byte([]int{int(b[at]) + 1, int(b[at]) - 1, 0, 128, 255, d.below(256)}[d.below(6)])
	return b
}

// bentImageBytes are the pieces of an image's bytes with one or two of them changed, ahead of their sum or behind it.
func (d *draughtsman) bentImageBytes(m impl.Image) []byte {
	pieces := [][]byte{headBytes(m)}
	for _, frames := range [][]string{m.Tiles, m.Rows} {
		for len(frames) > 0 {
			count := 1
			// now and then two records in the place of one
			for count < len(frames) && frames[count] == frames[0] && d.below(60) > 0 {
				count++
			}
			pieces = append(pieces, append([]byte{byte(count)}, frames[0]...))
			frames = frames[count:]
		}
	}
	bent := map[int]int{d.below(len(pieces)): 1 + d.below(2), d.below(len(pieces)): 1 + d.below(3)}
	if d.below(4) == 0 {
		bent = map[int]int{0: 1 + d.below(2)}
	}
	var all []byte
	for i, piece := range pieces {
		switch bent[i] {
		case 1:
			piece = sealed(d.bentPlaces(piece, 0))
		case 2:
			piece = d.bentPlaces(sealed(piece), d.below(len(piece)+2))
		default:
			piece = sealed(piece)
		}
		all = append(all, piece...)
	}
	if d.below(20) == 0 {
		all = append(all, all[d.below(len(all))])
	}
	return all
}

// otherFrames is an image of the same design with some other frames, now and then all of them.
func (d *draughtsman) otherFrames(m impl.Image) impl.Image {
	m = copiedImage(m)
	all := d.below(4) == 0
	frames, told := imageFrames(&m), bytesTold(m)
	some := d.below(len(frames))
	for number, frame := range frames {
		if !all && number != some && d.below(3) > 0 {
			continue
		}
		for range 1 + d.below(4) {
			place := d.below(len(*frame))
			may := told[number][place]
			*frame = withByte(*frame, place, may[d.below(len(may))])
		}
		if all && number < len(m.Tiles) {
			*frame = withByte(*frame, 0, int((*frame)[0])+1)
		}
	}
	return m
}

// otherLayout is the same design on the same tiles by other nets, and with other tables.
func (d *draughtsman) otherLayout(l layout) (layout, bool) {
	l.p.Blocks = slices.Clone(l.p.Blocks)
	for i := range l.p.Blocks {
		b := &l.p.Blocks[i]
		if d.below(3) == 0 {
			b.Table = d.below(tableBy(len(b.In), func(row int) bool { return true }) + 1)
		}
		if d.below(3) == 0 && b.Reg {
			b.Init, b.Clock = d.below(2), d.below(len(l.p.Clocks))
		}
	}
	if d.below(3) == 0 {
		return l, true
	}
	nets, ok := d.wildNets(l.p, l.c, l.tiles)
	l.nets = nets
	return l, ok
}

// holdPartial: promise 20 of two images of one design: the partial image makes of the first one the second, and is refused on what has another frame sum.
func holdPartial(t *testing.T, a, b impl.Image) []byte {
	t.Helper()
	part, code := impl.PartialOf(a, b)
	want, wantCode := partialTold(a, b)
	if code != impl.OK || wantCode != impl.OK || !bytes.Equal(part, want) {
		t.Fatalf("%s\n%s\ncode %d, want %d\n%x, want\n%x", imageShown(a), imageShown(b), code, wantCode, part, want)
	}
	made, code := impl.ApplyPartial(a, part)
	if code != impl.OK || imageShown(made) != imageShown(b) {
		t.Fatalf("%s: code %d\n%s, want\n%s", imageShown(a), code, imageShown(made), imageShown(b))
	}
	if !bytes.Equal(frameSumTold(a), frameSumTold(b)) {
		if made, code := impl.ApplyPartial(b, part); code != impl.ErrSum || imageShown(made) != imageShown(impl.Image{}) {
			t.Fatalf("%s\n%x: code %d", imageShown(b), part, code)
		}
	}
	return part
}

// Promise 20: a partial image makes of the one the other; the arguments stay, and what was answered may be written over.
func TestPartialsDrawn(t *testing.T) {
	counts := map[string]int{}
	for seed := range uint64(2000) {
		d := draughtsmanOf(seed + 300000)
		a := d.anyImage()
		b := d.otherFrames(a)
		shown := imageShown(a) + imageShown(b)
		part := holdPartial(t, a, b)
		made, _ := impl.ApplyPartial(a, part)
		overwriteImage(made)
		overwriteList(part, 77)
		if imageShown(a)+imageShown(b) != shown {
			t.Fatalf("%s: the arguments were changed", shown)
		}
		unlike := 0
		others := framesTold(b)
		for number, frame := range framesTold(a) {
			if frame != others[number] {
				unlike++
				counts["a row"] += numberIf(number >= len(a.Tiles))
				counts["a tile"] += numberIf(number < len(a.Tiles))
			}
		}
		counts[fmt.Sprint(min(unlike, 2), " frames")]++
		counts["all frames"] += numberIf(unlike == len(framesTold(a)))
		holdPartial(t, b, a)
		holdPartial(t, a, a)
	}
	wantsOften(t, counts, 40, []string{"0 frames", "1 frames", "2 frames", "all frames", "a row", "a tile"})
}

// What a partial image of two designs that differ in their nets and tables makes runs as the second one.
func TestPartialsRun(t *testing.T) {
	done := 0
	for seed := range uint64(500) {
		d := draughtsmanOf(seed + 310000)
		l, a := d.toLoad()
		other, ok := d.otherLayout(l)
		if !ok {
			continue
		}
		steps := d.stepsOfPack(l.p, 6)
		b := holdLoaded(t, other, steps)
		part := holdPartial(t, a, b)
		made, _ := impl.ApplyPartial(a, part)
		rows, _ := impl.PackRun(other.p, steps)
		if told, code := impl.DeviceRun(made, steps); code != impl.OK || rowsShown(told) != rowsShown(rows) {
			t.Fatalf("%v\n%v: code %d", l, other, code)
		}
		done++
	}
	if done < 300 {
		t.Errorf("only %d", done)
	}
}

// bentPartial are the bytes of a partial image with something changed in them, often with sums that fit again.
func (d *draughtsman) bentPartial(a, b impl.Image) []byte {
	part, _ := partialTold(a, b)
	body := part[:len(part)-2]
	switch d.below(7) {
	case 0:
		return d.bentPlaces(part, 0)
	case 1, 2:
		return sealed(d.bentPlaces(body, 5))
	case 3:
		return sealed(d.bentPlaces(body, 0))
	case 4:
		// any bytes at the places of frames
		return sealed(d.anyFrames(a))
	case 5:
		return sealed(append(slices.Clone(body), 0))
	}
	return sealed(body[:5+d.below(len(body)-4)])
}

// anyFrames has frames by numbers of which some do not rise or are not there, and some that no image could have.
func (d *draughtsman) anyFrames(a impl.Image) []byte {
	frames := framesTold(a)
	body := slices.Concat([]byte("HP\x01"), frameSumTold(a))
	count := d.below(4)
	body = append(body, numberBytes(count+[]int{0, 0, 0, 0, 1, -1}[d.below(6)]*numberIf(count > 0))...)
	number := d.below(len(frames))
	for range count {
		frame := frames[min(number, len(frames)-1)]
		place := d.below(len(frame))
		frame = withByte(frame, place, int(frame[place])+[]int{0, 1, 1, -1, 1}[d.below(5)])
		body = slices.Concat(body, numberBytes(number), []byte(frame))
		number += []int{1, 1, 1, 2, 0, d.below(5)}[d.below(6)]
	}
	return body
}

// Bytes that may be no partial image are taken or refused as told.
func TestPartialsBent(t *testing.T) {
	counts := map[string]int{}
	for seed := range uint64(12000) {
		d := draughtsmanOf(seed + 320000)
		a := d.image(d.below(6))
		b := d.otherFrames(a)
		part := d.bentPartial(a, b)
		got, code := impl.ApplyPartial(a, part)
		want, wantCode := applyTold(a, part)
		if code != wantCode || imageShown(got) != imageShown(want) {
			t.Fatalf("%s\n%x: code %d, want %d\n%s, want\n%s", imageShown(a), part, code, wantCode, imageShown(got), imageShown(want))
		}
		counts[fmt.Sprint("code ", code)]++
	}
	wantsOften(t, counts, 1000, []string{"code 0", "code 3", "code 16"})
}

// Two images of which one has another thing than frames.
func TestPartialsOfUnlike(t *testing.T) {
	codes := map[int]int{}
	for seed := range uint64(4000) {
		d := draughtsmanOf(seed + 350000)
		a := d.anyImage()
		b := d.otherFrames(a)
		d.bentImage(&b)
		for _, images := range [][2]impl.Image{{a, b}, {b, a}} {
			part, code := impl.PartialOf(images[0], images[1])
			want, wantCode := partialTold(images[0], images[1])
			if code != wantCode || !bytes.Equal(part, want) {
				t.Fatalf("%s\n%s\ncode %d, want %d", imageShown(images[0]), imageShown(images[1]), code, wantCode)
			}
			codes[code]++
		}
	}
	if codes[impl.OK] < 1000 || codes[impl.ErrKind] < 300 || codes[impl.ErrBad] < 2000 {
		t.Errorf("codes %v", codes)
	}
}

// Promise 1: no argument is written into, not behind its end either; answers are new memory, and no two lists of one share any.
func TestImageKeepsArguments(t *testing.T) {
	for seed := range uint64(300) {
		d := draughtsmanOf(seed + 360000)
		l, m := d.toLoad()
		l.p, l.tiles, l.nets = roomyPack(l.p), roomyList(l.tiles, 77), roomyNets(l.nets)
		steps := roomySteps(d.stepsOfPack(l.p, 3))
		m = roomyImage(m)
		other := roomyImage(d.otherFrames(m))
		b, _ := impl.ImageBytes(m)
		part, _ := impl.PartialOf(m, other)
		b, part = roomyList(b, 77), roomyList(part, 77)
		told := func() string {
			return wholePack(l.p) + fmt.Sprint(l.c, l.tiles[:cap(l.tiles)]) + wholeNets(l.nets) + wholeSteps(steps) + wholeImage(m) + wholeImage(other) + fmt.Sprint(b[:cap(b)], part[:cap(part)])
		}
		before := told()
		seen := map[any]bool{}
		packApart(t, l.p, seen)
		netsApart(t, l.nets, seen)
		imageApart(t, m, seen)
		imageApart(t, other, seen)
		for _, list := range [][]byte{b, part} {
			listApart(t, list, seen)
		}
		for _, s := range steps {
			listApart(t, s.Ins, seen)
		}
		var answers []string
		for range 2 {
			made, code := l.image()
			imageApart(t, made, seen)
			back, readCode := impl.ReadImage(b)
			imageApart(t, back, seen)
			written, writeCode := impl.ImageBytes(m)
			listApart(t, written, seen)
			ofPart, partCode := impl.PartialOf(m, other)
			listApart(t, ofPart, seen)
			applied, applyCode := impl.ApplyPartial(m, part)
			imageApart(t, applied, seen)
			rows, runCode := impl.DeviceRun(m, steps)
			rowsApart(t, rows, seen)
			answers = append(answers, fmt.Sprint(imageShown(made), code, imageShown(back), readCode, written, writeCode, ofPart, partCode, imageShown(applied), applyCode, rowsShown(rows), runCode, impl.Sum16(b), impl.ImageOK(m)))
		}
		if told() != before {
			t.Fatalf("%s: the arguments were changed", before)
		}
		if answers[0] != answers[1] {
			t.Fatalf("%s: another answer", before)
		}
	}
}

// Calls side by side answer what they answer one behind the other.
func TestImagesSideBySide(t *testing.T) {
	m := imageRead(theImage)
	b, _ := impl.ImageBytes(m)
	steps := stepsOf("0 1/.; 0 1/t; 1 0/t; 0 1/.")
	var joined sync.WaitGroup
	for range 16 {
		joined.Go(func() {
			for range 20 {
				back, code := impl.ReadImage(b)
				rows, runCode := impl.DeviceRun(back, steps)
				part, partCode := impl.PartialOf(m, back)
				made, madeCode := impl.ApplyPartial(m, part)
				if code+runCode+partCode+madeCode != impl.OK || imageWritten(made) != imageWritten(m) || rowsWritten(rows) != "1//1; 0//0; 0//1; 1//1" {
					t.Errorf("codes %d, %d, %d, %d: %s", code, runCode, partCode, madeCode, rowsWritten(rows))
				}
			}
		})
	}
	joined.Wait()
}
