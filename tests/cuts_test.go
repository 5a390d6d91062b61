package tests

import (
	"fmt"
	"strings"
	"testing"

	"loop.example/g00031/impl"
)

func TestCutsConstants(t *testing.T) {
	if got := fmt.Sprint(impl.MaxLeaves, impl.MaxCuts, impl.MaxParts); got != "4 8 64" {
		t.Error(got)
	}
}

// holdTable holds a table against what is told of it.
func holdTable(t *testing.T, a impl.Aig, lit int, leaves []int) (int, int) {
	t.Helper()
	table, code := impl.TableOf(a, lit, leaves)
	want, wantCode := tableOfTold(a, lit, leaves)
	if table != want || code != wantCode {
		t.Fatalf("%s: %d, %v: %d, code %d, want %d, code %d", aigWritten(a), lit, leaves, table, code, want, wantCode)
	}
	return table, code
}

// numbersRead reads numbers with blanks between them.
func numbersRead(text string) []int {
	var list []int
	for word := range strings.FieldsSeq(text) {
		list = append(list, numberRead(word))
	}
	return list
}

// theCone has of inputs 1, 2 and 3: 4 is 1 and 2; 5 is 4 and 3; 6 is 4 and not 3; 7 is neither 5 nor 6.
const theCone = "i j k | | | 2,4 6,8 7,8 11,13"

func TestTableOf(t *testing.T) {
	const none = -1
	for what, c := range map[string]struct {
		text   string
		lit    int
		leaves string
		want   int
	}{
		"an and":                                  {theCone, 8, "1 2", 8},
		"its opposite":                            {theCone, 9, "1 2", 7},
		"an and of an opposite":                   {theCone, 12, "3 4", 4},
		"the opposite of that":                    {theCone, 13, "3 4", 11},
		"an and of opposites":                     {theCone, 14, "5 6", 1},
		"by way of an and":                        {theCone, 10, "1 2 3", 128},
		"by way of it with an opposite":           {theCone, 12, "1 2 3", 8},
		"two ways that come to one":               {theCone, 14, "3 4", 3},
		"all the ways":                            {theCone, 14, "1 2 3", 119},
		"all the ways, turned":                    {theCone, 15, "1 2 3", 136},
		"one of both gone on":                     {theCone, 14, "3 4 5", 11},
		"the other one gone on":                   {theCone, 14, "3 4 6", 7},
		"a leaf that is the variable itself":      {theCone, 8, "4", 2},
		"its opposite, that leaf":                 {theCone, 9, "4", 1},
		"that leaf and its operands":              {theCone, 8, "1 2 4", 240},
		"that leaf's opposite and its operands":   {theCone, 9, "1 2 4", 15},
		"that leaf ahead of others":               {theCone, 8, "4 5 6 7", 43690},
		"that leaf behind others":                 {theCone, 14, "1 2 3 7", 65280},
		"a leaf that is met ahead of others":      {theCone, 10, "1 2 3 4", 61440},
		"leaves that are not met":                 {theCone, 8, "1 2 3", 136},
		"a leaf that is not met ahead of others":  {"i j k | | | 4,6", 8, "1 2 3", 192},
		"leaves above it":                         {theCone, 8, "1 2 5 6", 34952},
		"an input":                                {theCone, 2, "1", 2},
		"an input's opposite":                     {theCone, 3, "1", 1},
		"an input among others":                   {theCone, 4, "1 2 3", 204},
		"the third of four":                       {theCone, 6, "1 2 3 4", 61680},
		"the last of four, turned":                {theCone, 9, "1 2 3 4", 255},
		"an input that is no leaf":                {theCone, 2, "2", none},
		"an input and leaves above it":            {theCone, 2, "4 5 6 7", none},
		"an input without leaves":                 {theCone, 2, "", none},
		"an and without leaves":                   {theCone, 8, "", none},
		"a way to the first operand lacks":        {theCone, 8, "2", none},
		"a way to the second operand lacks":       {theCone, 8, "1", none},
		"a way lacks farther down":                {theCone, 14, "1 3", none},
		"a way lacks on one side":                 {theCone, 14, "3 5", none},
		"a way lacks on the other side":           {theCone, 14, "4 6", none},
		"its opposite lacks a way":                {theCone, 15, "1 2", none},
		"a leaf below does not help those beside": {theCone, 10, "1 2 4", none},
		"false":                                     {theCone, 0, "", 0},
		"true":                                      {theCone, 1, "", 1},
		"false with leaves":                         {theCone, 0, "1 2", 0},
		"true with a leaf":                          {theCone, 1, "3", 3},
		"true with two leaves":                      {theCone, 1, "1 2", 15},
		"true with four leaves":                     {theCone, 1, "1 2 3 4", 65535},
		"false of nothing":                          {"", 0, "", 0},
		"true of nothing":                           {"", 1, "", 1},
		"false and true":                            {"| | | 0,1", 2, "", 0},
		"true twice":                                {"| | | 1,1", 2, "", 1},
		"true twice, turned":                        {"| | | 1,1", 3, "", 0},
		"true twice, as a leaf":                     {"| | | 1,1", 2, "1", 2},
		"an and of those":                           {"| | | 1,1 2,1 2,5", 6, "", 0},
		"an and of those, as leaves":                {"| | | 1,1 2,1 2,5", 6, "1 2", 2},
		"false and an input":                        {"i | | | 0,2", 4, "1", 0},
		"a way that does not matter lacks":          {"i | | | 0,2", 4, "", none},
		"true and an input":                         {"i | | | 2,1", 4, "1", 2},
		"one literal twice":                         {"i | | | 3,3", 4, "1", 1},
		"opposites":                                 {"i | | | 3,2", 4, "1", 0},
		"opposites without leaves":                  {"i | | | 3,2", 4, "", none},
		"an input and a latch":                      {"i | c | l=0<2@0 | 2,5", 6, "1 2", 2},
		"a way ends at a latch":                     {"i | c | l=0<2@0 | 2,5", 6, "1", none},
		"a way ends at an input":                    {"i | c | l=0<2@0 | 2,5", 6, "2", none},
		"a latch's opposite, whatever its Next is":  {"i | c | l=0<2@0 | 2,5", 5, "2", 1},
		"a latch is not what its Next is":           {"i | c | l=0<2@0 | 2,5", 4, "1", none},
		"the last literal":                          {theCone, 15, "7", 1},
		"the last literal, of a leaf of each level": {theCone, 15, "3 4 5 6", 65520},
	} {
		table, code := holdTable(t, aigRead(c.text), c.lit, numbersRead(c.leaves))
		wantCode, want := impl.OK, c.want
		if c.want == none {
			wantCode, want = impl.ErrKind, 0
		}
		if table != want || code != wantCode {
			t.Errorf("%s: %d, code %d, want %d, code %d", what, table, code, want, wantCode)
		}
	}
}

func TestTableOfFaults(t *testing.T) {
	const low, high = -1 << 63, 1<<63 - 1
	wrong := aigRead(theCone)
	wrong.Ins[1] = "i"
	for what, c := range map[string]struct {
		a      impl.Aig
		lit    int
		leaves []int
		want   int
	}{
		"right":                              {aigRead(theCone), 8, []int{1, 2}, impl.OK},
		"no graph":                           {wrong, 8, []int{1, 2}, impl.ErrBad},
		"no graph, and a way lacks":          {wrong, 8, nil, impl.ErrBad},
		"an and of itself":                   {aigRead("i | | | 4,2"), 4, []int{1}, impl.ErrBad},
		"a literal below":                    {aigRead(theCone), -1, []int{1, 2}, impl.ErrBad},
		"a literal far below":                {aigRead(theCone), low, []int{1, 2}, impl.ErrBad},
		"a literal above":                    {aigRead(theCone), 16, []int{1, 2}, impl.ErrBad},
		"a literal far above":                {aigRead(theCone), high, []int{1, 2}, impl.ErrBad},
		"a literal where there is nothing":   {impl.Aig{}, 2, nil, impl.ErrBad},
		"leaves that fall":                   {aigRead(theCone), 8, []int{2, 1}, impl.ErrBad},
		"a leaf twice":                       {aigRead(theCone), 8, []int{1, 1}, impl.ErrBad},
		"a leaf twice behind others":         {aigRead(theCone), 8, []int{1, 2, 2}, impl.ErrBad},
		"leaves that fall at the end":        {aigRead(theCone), 8, []int{1, 2, 4, 3}, impl.ErrBad},
		"variable 0":                         {aigRead(theCone), 8, []int{0, 1, 2}, impl.ErrBad},
		"variable 0 alone":                   {aigRead(theCone), 0, []int{0}, impl.ErrBad},
		"a variable below":                   {aigRead(theCone), 8, []int{-1, 1, 2}, impl.ErrBad},
		"a variable far below":               {aigRead(theCone), 8, []int{low, 1, 2}, impl.ErrBad},
		"a variable above":                   {aigRead(theCone), 8, []int{1, 2, 8}, impl.ErrBad},
		"a variable far above":               {aigRead(theCone), 8, []int{1, 2, high}, impl.ErrBad},
		"the last variable":                  {aigRead(theCone), 8, []int{1, 2, 7}, impl.OK},
		"a variable where there is nothing":  {impl.Aig{}, 0, []int{1}, impl.ErrBad},
		"four leaves":                        {aigRead(theCone), 8, []int{1, 2, 3, 4}, impl.OK},
		"five leaves":                        {aigRead(theCone), 8, []int{1, 2, 3, 4, 5}, impl.ErrBad},
		"five leaves, and a way lacks":       {aigRead(theCone), 8, []int{3, 4, 5, 6, 7}, impl.ErrBad},
		"as many leaves as a list has":       {aigRead(theCone), 8, make([]int, impl.MaxList), impl.ErrBad},
		"more leaves than a list has":        {aigRead(theCone), 8, make([]int, impl.MaxList+1), impl.ErrBad},
		"a way lacks":                        {aigRead(theCone), 8, []int{1}, impl.ErrKind},
		"a way lacks, and leaves that fall":  {aigRead(theCone), 8, []int{3, 1}, impl.ErrBad},
		"a way lacks, and a literal above":   {aigRead(theCone), 16, nil, impl.ErrBad},
		"a way lacks, and variable 0":        {aigRead(theCone), 8, []int{0}, impl.ErrBad},
		"a leaf above does not make it fall": {aigRead(theCone), 10, []int{3, 4, 7}, impl.OK},
	} {
		if table, code := holdTable(t, c.a, c.lit, c.leaves); code != c.want || code != impl.OK && table != 0 {
			t.Errorf("%s: %d, code %d, want %d", what, table, code, c.want)
		}
	}
}

// holdCuts holds cuts against what is told of them, and each of them against TableOf.
func holdCuts(t *testing.T, a impl.Aig, most int) ([][]impl.Cut, int) {
	t.Helper()
	cuts, code := impl.Cuts(a, most)
	want, wantCode := cutsTold(a, most)
	if code != wantCode || cutsShown(cuts) != cutsShown(want) {
		t.Fatalf("%s: most %d: code %d, want %d\n%s, want\n%s", aigWritten(a), most, code, wantCode, cutsShown(cuts), cutsShown(want))
	}
	for at, list := range cuts {
		for _, c := range list {
			lit := 2 * (1 + len(a.Ins) + len(a.Latches) + at)
			if table, code := impl.TableOf(a, lit, c.Leaves); code != impl.OK || table != c.Table {
				t.Fatalf("%s: most %d: of %d %v has %d, but TableOf tells %d, code %d", aigWritten(a), most, lit, c.Leaves, c.Table, table, code)
			}
		}
	}
	return cuts, code
}

// Of each and the cuts that are told here; where there are several ands those of the last one.
func TestCuts(t *testing.T) {
	const tree = "i j k l | | | 2,4 6,8 10,12"
	const chain = "i j k l m | | | 2,4 6,12 8,14 10,16"
	for what, c := range map[string]struct {
		text string
		most int
		want string
	}{
		"an and of inputs":                     {"i j | | | 2,4", 4, "{1 2}=8 {3}=2"},
		"the greater one first, opposites":     {"i j | | | 5,3", 4, "{1 2}=1 {3}=2"},
		"an input and a latch":                 {"i | c | l=0<2@0 | 2,5", 4, "{1 2}=2 {3}=2"},
		"latches":                              {"| c | l=0<2@0 m=1<2@0 | 2,4", 2, "{1 2}=8 {3}=2"},
		"one literal twice":                    {"i j | | | 4,4", 4, "{2}=2 {3}=2"},
		"opposites":                            {"i j | | | 4,5", 4, "{2}=0 {3}=2"},
		"false and an input":                   {"i | | | 0,2", 4, "{1}=0 {2}=2"},
		"an input and true":                    {"i | | | 3,1", 4, "{1}=1 {2}=2"},
		"false twice":                          {"| | | 0,0", 4, "{}=0 {1}=2"},
		"true twice":                           {"| | | 1,1", 2, "{}=1 {1}=2"},
		"false and true":                       {"| | | 1,0", 3, "{}=0 {1}=2"},
		"nothing but those without leaves":     {"| | | 1,1 1,1 2,4", 4, "{}=1 {3}=2"},
		"one without leaves and an input":      {"i | | | 1,1 4,3", 4, "{1}=1 {3}=2"},
		"one without leaves and an and":        {"i j | | | 1,1 2,4 6,9", 4, "{1 2}=7 {4}=1 {5}=2"},
		"an and of an and":                     {"i j k | | | 2,4 6,8", 4, "{1 2 3}=128 {3 4}=8 {5}=2"},
		"an and of it and an opposite":         {"i j k | | | 2,4 7,8", 3, "{1 2 3}=8 {3 4}=4 {5}=2"},
		"three leaves are too many":            {"i j k | | | 2,4 6,8", 2, "{3 4}=8 {5}=2"},
		"an and twice":                         {"i j | | | 2,4 6,6", 4, "{1 2}=8 {3}=2 {4}=2"},
		"an and and its opposite":              {"i j | | | 2,4 6,7", 4, "{1 2}=0 {3}=0 {4}=2"},
		"by level, then by count":              {tree, 4, "{1 2 3 4}=32768 {5 6}=8 {1 2 6}=128 {3 4 5}=128 {7}=2"},
		"four leaves are too many":             {tree, 3, "{5 6}=8 {1 2 6}=128 {3 4 5}=128 {7}=2"},
		"three are too many":                   {tree, 2, "{5 6}=8 {7}=2"},
		"by level":                             {chain, 4, "{3 4 5 6}=32768 {4 5 7}=128 {5 8}=8 {9}=2"},
		"by level, with three":                 {chain, 3, "{4 5 7}=128 {5 8}=8 {9}=2"},
		"by the first leaf that differs":       {"i j k | | | 2,4 2,6 8,10", 4, "{1 2 3}=128 {4 5}=8 {1 2 5}=128 {1 3 4}=128 {6}=2"},
		"a set twice":                          {"i j | | | 2,4 3,5 7,9", 4, "{1 2}=6 {3 4}=1 {5}=2"},
		"leaves of another one and more":       {"i j | | | 2,4 2,6", 4, "{1 2}=8 {1 3}=8 {4}=2"},
		"leaves of another one beside it":      {"i j | | | 2,4 2,6 6,8", 4, "{1 2}=8 {1 3}=8 {3 4}=8 {5}=2"},
		"an operand that is the other's":       {"i j k | | | 2,4 6,8 8,11", 4, "{1 2 3}=8 {3 4}=4 {4 5}=2 {1 2 5}=8 {6}=2"},
		"all of another one, which comes last": {"i j k | | | 2,4 6,8 10,2", 4, "{1 2 3}=128 {1 3 4}=128 {1 5}=8 {6}=2"},
		"as many as there may be":              {"i j k l | | | 6,8 10,2 10,4 12,14", 4, "{1 2 3 4}=32768 {1 2 5}=128 {6 7}=8 {1 5 7}=128 {2 5 6}=128 {1 3 4 7}=32768 {2 3 4 6}=32768 {8}=2"},
		"one more, {4 6}":                      {"i j | | | 4,4 2,2 6,6 10,8 8,12", 4, "{1 2}=8 {1 3}=8 {2 4}=8 {3 4}=8 {1 5}=8 {4 5}=8 {1 6}=8 {7}=2"},
		"two more, {4 5} and {5 6}":            {"i j | | | 4,4 2,2 6,6 8,8 12,10", 4, "{1 2}=8 {1 3}=8 {2 4}=8 {3 4}=8 {1 5}=8 {2 6}=8 {3 6}=8 {7}=2"},
	} {
		cuts, code := holdCuts(t, aigRead(c.text), c.most)
		if code != impl.OK || len(cuts) == 0 || cutsOfAnd(cuts[len(cuts)-1]) != c.want {
			t.Errorf("%s: code %d, %s, want %s", what, code, cutsShown(cuts), c.want)
		}
	}
}

// No cuts of ands where there are none; the codes in their order.
func TestCutsFaults(t *testing.T) {
	const low, high = -1 << 63, 1<<63 - 1
	wrong := aigRead(theCone)
	wrong.Ands[3].B = 14
	for what, c := range map[string]struct {
		a    impl.Aig
		most int
		want int
	}{
		"one":               {aigRead(theCone), 1, impl.ErrRange},
		"two":               {aigRead(theCone), 2, impl.OK},
		"three":             {aigRead(theCone), 3, impl.OK},
		"four":              {aigRead(theCone), 4, impl.OK},
		"five":              {aigRead(theCone), 5, impl.ErrRange},
		"none":              {aigRead(theCone), 0, impl.ErrRange},
		"below":             {aigRead(theCone), -2, impl.ErrRange},
		"far below":         {aigRead(theCone), low, impl.ErrRange},
		"far above":         {aigRead(theCone), high, impl.ErrRange},
		"nothing":           {impl.Aig{}, 4, impl.OK},
		"nothing, of five":  {impl.Aig{}, 5, impl.ErrRange},
		"no graph":          {wrong, 4, impl.ErrBad},
		"no graph, of one":  {wrong, 1, impl.ErrBad},
		"no graph, of five": {wrong, 5, impl.ErrBad},
	} {
		cuts, code := holdCuts(t, c.a, c.most)
		if code != c.want || code != impl.OK && len(cuts) != 0 || code == impl.OK && len(cuts) != len(c.a.Ands) {
			t.Errorf("%s: code %d, want %d, %s", what, code, c.want, cutsShown(cuts))
		}
	}
}

// A way ends at the first leaf that it meets, also where what lies behind that one are leaves as well. (The cut without those is not among the operand's first seven.)
func TestCutsWithLeavesBehindLeaves(t *testing.T) {
	for text, want := range map[string]string{
		"i j k l m | | | 7,6 0,3 14,6 11,17 8,0 14,10 12,15 17,24 23,24 27,25 26,28":        "{3 7 11 12}=1792",
		"i j k l m | | | 2,2 8,11 13,2 14,8 10,18 12,14 21,21 11,19 27,1 22,16 30,14 32,25": "{4 5 7 15}=32768",
	} {
		cuts, code := holdCuts(t, aigRead(text), 4)
		last := cuts[len(cuts)-1]
		if code != impl.OK || len(last) != impl.MaxCuts || cutsOfAnd(last[6:7]) != want {
			t.Errorf("%s: code %d, %s, want %s", text, code, cutsOfAnd(last), want)
		}
	}
}
