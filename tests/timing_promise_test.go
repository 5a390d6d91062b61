package tests

import (
	"fmt"
	"slices"
	"sync"
	"testing"

	"loop.example/g00031/impl"
)

// holdTiming holds Timing against a code and what is told of it, and promise 19 of what it answers.
func holdTiming(t *testing.T, a timingCall, code int) impl.Report {
	t.Helper()
	got, gotCode := a.answer()
	want, wantCode := timingTold(a, map[string]int{})
	if gotCode != code || wantCode != code || reportWritten(got) != reportWritten(want) {
		t.Fatalf("%v: code %d, told %d, want %d\n%s, told\n%s", a, gotCode, wantCode, code, reportWritten(got), reportWritten(want))
	}
	if code == impl.OK {
		holdTimes(t, a, got)
	}
	return got
}

// holdTimes: promise 19 of a report: no way takes longer than its path's Most, nor less than its Least, some take just these; where Slack is not below 0 all are done in time.
func holdTimes(t *testing.T, a timingCall, r impl.Report) {
	t.Helper()
	ways := allWaysTold(a, map[string]int{})
	for i, p := range slices.Concat(r.Paths, r.Cross) {
		most, least := 0, 0
		time := timeTold(a, p)
		for _, w := range ways {
			if w.from != p.From || w.to != p.To {
				continue
			}
			if w.takes > p.Most || w.takes < p.Least {
				t.Fatalf("%v: %v, but there is a way of %d", a, p, w.takes)
			}
			if i < len(r.Paths) && (w.takes <= time) != (p.Slack >= 0) && w.takes == p.Most {
				t.Fatalf("%v: %v, but a way takes %d of %d", a, p, w.takes, time)
			}
			if i < len(r.Paths) && p.Slack >= 0 && w.takes > time {
				t.Fatalf("%v: %v, but a way takes %d of %d", a, p, w.takes, time)
			}
			most += numberIf(w.takes == p.Most)
			least += numberIf(w.takes == p.Least)
		}
		if most == 0 || least == 0 {
			t.Fatalf("%v: %v, but no way takes so much", a, p)
		}
	}
}

// timeTold is what a path has: the cycles of the last except that is of it, or one, of its clock.
func timeTold(a timingCall, p impl.Path) int {
	cycles := 1
	for _, e := range a.excepts {
		if (e.From == p.From || e.From < 0) && (e.To == p.To || e.To < 0) {
			cycles = e.Cycles
		}
	}
	if p.To < len(a.p.Blocks) {
		return cycles * a.periods[a.p.Blocks[p.To].Clock]
	}
	return cycles * a.periods[a.p.Blocks[p.From-len(a.p.Ins)].Clock]
}

// overwriteReport writes over all that is in a report, and behind the ends of its lists.
func overwriteReport(r impl.Report) {
	overwriteList(r.Paths, impl.Path{From: -9, To: -9, Most: -9, Least: -9, Slack: -9})
	overwriteList(r.Cross, impl.Path{From: -9, To: -9, Most: -9, Least: -9, Slack: -9})
}

// Promise 19 of drawn designs that were placed and routed, with drawn delays, periods and excepts; what was answered is written over, and Timing called again with the same arguments.
func TestTimingsDrawn(t *testing.T) {
	counts := map[string]int{}
	for seed := range uint64(4000) {
		a := draughtsmanOf(seed + 190000).toTime()
		was := a.String()
		got := holdTiming(t, a, impl.OK)
		timingTold(a, counts)
		before := reportWritten(got)
		overwriteReport(got)
		again, code := a.answer()
		if code != impl.OK || reportWritten(again) != before || a.String() != was {
			t.Fatalf("%s: %s, then code %d, %s of %v", was, before, code, reportWritten(again), a)
		}
	}
	wantsOften(t, counts, 200, []string{
		"a later wire that ends there", "a later wire that ends there sooner", "no paths", "Worst below 0", "Worst above 0", "two ways, Most and Least apart", "another one of several excepts", "from an input to an out",
		"from an input to a register", "from an input to a register, not told", "from an input to a register, excepted", "from a register to an out", "from a register to an out, not told", "from a register to an out, excepted",
		"of one clock", "of one clock, not told", "of one clock, excepted", "between two clocks", "between two clocks, not told", "between two clocks, excepted",
	})
}

// relaxedTold has of each path what the longest and the shortest way take, found without going each way: what is known of sources grows as long as a going has more to tell.
func relaxedTold(a timingCall) map[[2]int][2]int {
	m := &timingModel{timingCall: a, ends: slices.Concat(a.p.Outs, a.p.Checks), counts: map[string]int{}}
	found := map[[2]int][2]int{}
	put := func(to map[[2]int][2]int, at [2]int, most, least int) bool {
		was, there := to[at]
		now := [2]int{max(was[0], most), min(was[1], least)}
		if !there {
			now = [2]int{most, least}
		}
		to[at] = now
		return !there || now != was
	}
	for _, from := range beginningsOf(a.p) {
		start := a.d.Pad
		if from >= len(a.p.Ins) {
			start = a.d.Out
		}
		known := map[[2]int][2]int{{0, from}: {start, start}}
		for again := true; again; {
			again = false
			for number, b := range a.p.Blocks {
				tile := a.tiles[number]
				for _, source := range b.In {
					of, there := known[[2]int{0, source}]
					if !there {
						continue
					}
					more := a.d.Lut + a.d.Wire*m.goingTold(source, goalTold{tile % a.c.Wide, tile / a.c.Wide})
					if b.Reg {
						put(found, [2]int{from, number}, of[0]+more+a.d.Setup, of[1]+more+a.d.Setup)
					} else if put(known, [2]int{0, len(a.p.Ins) + number}, of[0]+more, of[1]+more) {
						again = true
					}
				}
			}
		}
		for j, end := range m.ends {
			if of, there := known[[2]int{0, end.Src}]; there && from >= len(a.p.Ins) {
				more := a.d.Pad + a.d.Wire*m.goingTold(end.Src, goalTold{a.c.Wide, j % a.c.High})
				put(found, [2]int{from, len(a.p.Blocks) + j}, of[0]+more, of[1]+more)
			}
		}
	}
	return found
}

// wholeTimingOf has a chip of 64 tiles full of blocks of which each reads the four sources ahead of it, so that there are more ways than could be gone one by one.
func wholeTimingOf(t *testing.T, d *draughtsman, regs int) timingCall {
	t.Helper()
	p := impl.Packed{Ins: []string{"i", "j", "k", "l"}, Clocks: []string{"c", "d"}}
	for at := range 64 {
		b := impl.Block{In: []int{3 + at, 2 + at, 1 + at, at}, Table: 6}
		if at < regs {
			b.Reg, b.Name, b.Clock = true, fmt.Sprint("r", at), at%2
			b.In = []int{67 - at, 66 - at, 65 - at}
		}
		p.Blocks = append(p.Blocks, b)
	}
	p.Outs = []impl.Port{{Name: "y", Src: 67}, {Name: "z", Src: 40}}
	p.Checks = []impl.Port{{Name: "k", Src: 66}}
	a := timingCall{p: p, c: trackChip(8, 8, 8), d: d.delays(), periods: []int{d.period(), d.period()}}
	a.tiles, _ = impl.Place(a.p, a.c, 1, 3000)
	nets, code := impl.Route(a.p, a.c, a.tiles)
	if code != impl.OK {
		t.Fatalf("code %d", code)
	}
	a.nets = nets
	return a
}

// Promise 19 of a whole chip, and of one on which all is gone through.
func TestTimingsWhole(t *testing.T) {
	for seed := range uint64(6) {
		d := draughtsmanOf(seed + 195000)
		a := wholeTimingOf(t, d, 1+int(seed)*5)
		r, code := a.answer()
		want := relaxedTold(a)
		if code != impl.OK || len(r.Paths)+len(r.Cross) != len(want) || len(want) < 4+int(seed) {
			t.Fatalf("code %d, %d and %d paths, want %d", code, len(r.Paths), len(r.Cross), len(want))
		}
		for _, p := range slices.Concat(r.Paths, r.Cross) {
			if want[[2]int{p.From, p.To}] != [2]int{p.Most, p.Least} {
				t.Errorf("%v: want %v", p, want[[2]int{p.From, p.To}])
			}
		}
	}
}

// The two tellings of the longest and the shortest ways say the same.
func TestTimingTellings(t *testing.T) {
	for seed := range uint64(500) {
		a := draughtsmanOf(seed + 196000).toTime()
		a.excepts = exceptsRead("-1>-1*1")
		r, _ := timingTold(a, map[string]int{})
		want := relaxedTold(a)
		for _, p := range r.Paths {
			if want[[2]int{p.From, p.To}] != [2]int{p.Most, p.Least} {
				t.Fatalf("%v: %v, want %v", a, p, want[[2]int{p.From, p.To}])
			}
		}
		if len(r.Paths) != len(want) {
			t.Fatalf("%v: %d paths, want %d", a, len(r.Paths), len(want))
		}
	}
}

// bentTiming changes one piece of what Timing is given.
func (d *draughtsman) bentTiming(a *timingCall) {
	numbers := []*int{&a.d.Lut, &a.d.Wire, &a.d.Pad, &a.d.Out, &a.d.Setup}
	kind := d.below(11)
	switch {
	case kind == 0:
		a.nets = d.bentNets(a.nets)
	case kind == 1:
		d.bentPack(&a.p)
	case kind == 2 && d.below(2) == 0:
		field := []*int{&a.c.Wide, &a.c.High, &a.c.Tracks, &a.c.Pads}[d.below(4)]
		*field += []int{1, -1, 9, -1 << 63, 1<<63 - 1}[d.below(5)]
	case kind == 2 && len(a.tiles) > 0:
		a.tiles[d.below(len(a.tiles))] += []int{1, -1, 64}[d.below(3)]
	case kind == 3:
		a.periods = append(a.periods, 5)[d.below(3)%(len(a.periods)+1):]
	case kind < 6 && len(a.periods) > 0:
		a.periods[d.below(len(a.periods))] = []int{0, -1, 1, 1000000, 1000001, -1 << 63, 1<<63 - 1}[d.below(7)]
	case kind < 9:
		a.excepts = append(a.excepts, impl.Except{From: -1, To: -1, Cycles: 1})
		e := &a.excepts[d.below(len(a.excepts))]
		*[]*int{&e.From, &e.To, &e.Cycles}[d.below(3)] = []int{-1, 0, 1, 2, 3, d.below(12), 100, 101, -2, 1 << 62}[d.below(10)]
	default:
		*numbers[d.below(len(numbers))] = []int{0, -1, 1000, 1001, -1 << 63, 1<<63 - 1}[d.below(6)]
	}
}

// What may be no call, by one piece or several: the codes as told, and nothing beside one.
func TestTimingsOfAny(t *testing.T) {
	codes := map[int]int{}
	for seed := range uint64(5000) {
		d := draughtsmanOf(seed + 200000)
		a := d.toTime()
		for range 1 + d.below(2) {
			d.bentTiming(&a)
		}
		code := timingCodeTold(a)
		got := holdTiming(t, a, code)
		if code != impl.OK && reportWritten(got) != "| | 0" {
			t.Fatalf("%v: code %d, %s", a, code, reportWritten(got))
		}
		codes[code]++
	}
	for _, code := range []int{impl.OK, impl.ErrBad, impl.ErrRange} {
		if codes[code] < 800 {
			t.Errorf("codes %v", codes)
		}
	}
}

// Promise 1: no argument is written into, not behind its end either; answers are new memory, and no two lists of one share any.
func TestTimingKeepsArguments(t *testing.T) {
	for seed := range uint64(400) {
		a := roomyTiming(draughtsmanOf(seed + 210000).toTime())
		before := wholeTiming(a)
		seen := map[any]bool{}
		packApart(t, a.p, seen)
		netsApart(t, a.nets, seen)
		listApart(t, a.tiles, seen)
		listApart(t, a.periods, seen)
		listApart(t, a.excepts, seen)
		var answers []string
		for range 2 {
			r, code := a.answer()
			reportApart(t, r, seen)
			answers = append(answers, fmt.Sprint(reportWritten(r), code))
		}
		if wholeTiming(a) != before {
			t.Fatalf("%s: the arguments were changed", before)
		}
		if answers[0] != answers[1] {
			t.Fatalf("%s: another answer", before)
		}
	}
}

// Calls side by side answer what they answer one behind the other.
func TestTimingsSideBySide(t *testing.T) {
	a := theTiming()
	var joined sync.WaitGroup
	for range 16 {
		joined.Go(func() {
			for range 20 {
				if r, code := a.answer(); code != impl.OK || reportWritten(r) != theReport {
					t.Errorf("code %d, %s", code, reportWritten(r))
				}
			}
		})
	}
	joined.Wait()
}
