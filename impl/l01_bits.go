package impl

import "math/bits"

const (
	MaxText = 65536
	MaxList = 4096
)

const (
	OK         = 0
	ErrBad     = 1
	ErrLong    = 2
	ErrForm    = 3
	ErrSyntax  = 4
	ErrName    = 5
	ErrTwice   = 6
	ErrWidth   = 7
	ErrKind    = 8
	ErrDeep    = 9
	ErrMany    = 10
	ErrRange   = 11
	ErrLoop    = 12
	ErrLatch   = 13
	ErrPlain   = 14
	ErrWork    = 15
	ErrSum     = 16
	ErrFit     = 17
	ErrLine    = 18
	ErrMissing = 19
	ErrOpen    = 20
)

const MaxWidth = 64

const (
	OpAnd    = 1
	OpOr     = 2
	OpXor    = 3
	OpAdd    = 4
	OpSub    = 5
	OpMul    = 6
	OpDiv    = 7
	OpRem    = 8
	OpEq     = 9
	OpNe     = 10
	OpSame   = 11
	OpLt     = 12
	OpLe     = 13
	OpShl    = 14
	OpShr    = 15
	OpSar    = 16
	OpBoth   = 17
	OpEither = 18
	OpNot    = 19
	OpNeg    = 20
	OpAll    = 21
	OpAny    = 22
	OpOdd    = 23
	OpNone   = 24
)

// vec is a vector in two words: a bit that is set in known is 0 or 1, as what
// has it; one that is not is x, or z where what has it set. No bit above the
// width is set in either, so that equal vectors are equal values.
type vec struct {
	width int
	known uint64
	what  uint64
}

// vecOf reads a text; false where it is no vector.
func vecOf(text string) (vec, bool) {
	if len(text) < 1 || len(text) > MaxWidth {
		return vec{}, false
	}
	v := vec{width: len(text)}
	for i := 0; i < len(text); i++ {
		v.known <<= 1
		v.what <<= 1
		switch text[i] {
		case '0':
			v.known |= 1
		case '1':
			v.known |= 1
			v.what |= 1
		case 'x':
		case 'z':
			v.what |= 1
		default:
			return vec{}, false
		}
	}
	return v, true
}

// twoOf reads two texts; false where one of them is no vector.
func twoOf(a, b string) (vec, vec, bool) {
	v, okA := vecOf(a)
	w, okB := vecOf(b)
	return v, w, okA && okB
}

// lowBits has the lowest count bits set, all 64 if count is above that.
func lowBits(count uint64) uint64 {
	return uint64(1)<<count - 1
}

func widthOK(width int) bool {
	return width >= 1 && width <= MaxWidth
}

// numberVec is the known vector of a number's lowest bits.
func numberVec(number uint64, width int) vec {
	return vec{width: width, known: ^uint64(0), what: number}.cut()
}

func unknownVec(width int) vec {
	return vec{width: width}
}

func undrivenVec(width int) vec {
	return vec{width: width, what: ^uint64(0)}.cut()
}

// truthVec is one bit, 0 or 1.
func truthVec(holds bool) vec {
	if holds {
		return numberVec(1, 1)
	}
	return numberVec(0, 1)
}

func (v vec) mask() uint64 {
	return lowBits(uint64(v.width))
}

// cut takes away what stands above the width.
func (v vec) cut() vec {
	return vec{width: v.width, known: v.known & v.mask(), what: v.what & v.mask()}
}

func (v vec) isKnown() bool {
	return v.known == v.mask()
}

// ones has the bits that are 1.
func (v vec) ones() uint64 {
	return v.known & v.what
}

// zeros has the bits that are 0.
func (v vec) zeros() uint64 {
	return v.known &^ v.what
}

// undriven has the bits that are z.
func (v vec) undriven() uint64 {
	return v.what &^ v.known
}

// settled makes a vector of the bits that are 0 and those that are 1; the rest is x.
func settled(width int, zeros, ones uint64) vec {
	return vec{width: width, known: zeros | ones, what: ones}
}

// signedNumber is what a known vector means in two's complement.
func (v vec) signedNumber() int64 {
	above := uint64(MaxWidth - v.width)
	return int64(v.what<<above) >> above
}

// numberBelow is the number of a known vector, if it is below limit.
func (v vec) numberBelow(limit int) (int, bool) {
	if !v.isKnown() || v.what >= uint64(limit) {
		return 0, false
	}
	return int(v.what), true
}

// text writes a vector out, the highest bit first.
func (v vec) text() string {
	letters := [4]byte{'x', 'z', '0', '1'}
	var out [MaxWidth]byte
	for i := 0; i < v.width; i++ {
		at := uint64(v.width - 1 - i)
		out[i] = letters[(v.known>>at&1)<<1|v.what>>at&1]
	}
	return string(out[:v.width])
}

// slice has width bits from bit low on. Shifting brings in x by itself, as x is
// a bit that neither word has set.
func (v vec) slice(low, width int) vec {
	if low < 0 {
		up := -uint64(low)
		return vec{width: width, known: v.known << up, what: v.what << up}.cut()
	}
	down := uint64(low)
	return vec{width: width, known: v.known >> down, what: v.what >> down}.cut()
}

// filled puts bit 0 of bit into each place that places has set.
func (v vec) filled(places uint64, bit vec) vec {
	v.known &^= places
	v.what &^= places
	if bit.known&1 != 0 {
		v.known |= places
	}
	if bit.what&1 != 0 {
		v.what |= places
	}
	return v
}

func (v vec) highest() vec {
	return v.slice(v.width-1, 1)
}

func (v vec) resized(width int, signed bool) vec {
	ahead := lowBits(uint64(width)) &^ v.mask()
	out := vec{width: width, known: v.known, what: v.what}.cut()
	if signed {
		return out.filled(ahead, v.highest())
	}
	return out.filled(ahead, truthVec(false))
}

// joined is v with w behind it.
func (v vec) joined(w vec) vec {
	up := uint64(w.width)
	return vec{width: v.width + w.width, known: v.known<<up | w.known, what: v.what<<up | w.what}
}

// covered has the bits of w where mask has them set.
func (v vec) covered(mask uint64, w vec) vec {
	return vec{
		width: v.width,
		known: v.known&^mask | w.known&mask,
		what:  v.what&^mask | w.what&mask,
	}
}

// resolved is what two drivers of one wire give together.
func (v vec) resolved(w vec) vec {
	agree := v.known & w.known &^ (v.what ^ w.what)
	fromV := w.undriven() | agree
	fromW := v.undriven()
	return vec{
		width: v.width,
		known: v.known&fromV | w.known&fromW,
		what:  v.what&fromV | w.what&fromW,
	}
}

// truth is 1 if there is a 1, 0 if all is 0, else x.
func (v vec) truth() vec {
	if v.ones() != 0 {
		return truthVec(true)
	}
	if v.isKnown() {
		return truthVec(false)
	}
	return unknownVec(1)
}

// choose is a or b as the truth of v tells, or what they have in common.
func (v vec) choose(a, b vec) vec {
	truth := v.truth()
	if truth.ones() != 0 {
		return a
	}
	if truth.zeros() != 0 {
		return b
	}
	return settled(a.width, a.zeros()&b.zeros(), a.ones()&b.ones())
}

func (v vec) and(w vec) vec {
	return settled(v.width, v.zeros()|w.zeros(), v.ones()&w.ones())
}

func (v vec) or(w vec) vec {
	return settled(v.width, v.zeros()&w.zeros(), v.ones()|w.ones())
}

func (v vec) xor(w vec) vec {
	known := v.known & w.known
	differ := v.what ^ w.what
	return settled(v.width, known&^differ, known&differ)
}

func (v vec) not() vec {
	return settled(v.width, v.ones(), v.zeros())
}

// reckon takes two known vectors as numbers; the answer's lowest bits count.
func (v vec) reckon(w vec, answer func(a, b uint64) uint64) vec {
	if !v.isKnown() || !w.isKnown() {
		return unknownVec(v.width)
	}
	return numberVec(answer(v.what, w.what), v.width)
}

func (v vec) add(w vec) vec {
	return v.reckon(w, func(a, b uint64) uint64 { return a + b })
}

func (v vec) sub(w vec) vec {
	return v.reckon(w, func(a, b uint64) uint64 { return a - b })
}

func (v vec) mul(w vec) vec {
	return v.reckon(w, func(a, b uint64) uint64 { return a * b })
}

func (v vec) neg() vec {
	return numberVec(0, v.width).sub(v)
}

// quotient is rounded towards zero. The least number by -1 is taken by itself,
// as of 64 bits the quotient is no number of that width.
func (v vec) quotient(w vec, signed bool) vec {
	if !v.isKnown() || !w.isKnown() || w.what == 0 {
		return unknownVec(v.width)
	}
	if !signed {
		return numberVec(v.what/w.what, v.width)
	}
	if w.signedNumber() == -1 {
		return v.neg()
	}
	return numberVec(uint64(v.signedNumber()/w.signedNumber()), v.width)
}

// rest is what the quotient leaves over, which settles its sign, too.
func (v vec) rest(w vec, signed bool) vec {
	return v.sub(v.quotient(w, signed).mul(w))
}

// equal is 0 where some place settles it, whatever the bits that are not known.
func (v vec) equal(w vec) vec {
	if v.xor(w).ones() != 0 {
		return truthVec(false)
	}
	if !v.isKnown() || !w.isKnown() {
		return unknownVec(1)
	}
	return truthVec(true)
}

func (v vec) unequal(w vec) vec {
	return v.equal(w).not()
}

func (v vec) same(w vec) vec {
	return truthVec(v == w)
}

func (v vec) less(w vec, signed bool) vec {
	if !v.isKnown() || !w.isKnown() {
		return unknownVec(1)
	}
	if signed {
		return truthVec(v.signedNumber() < w.signedNumber())
	}
	return truthVec(v.what < w.what)
}

// atMost is the opposite of less with both exchanged, x of x.
func (v vec) atMost(w vec, signed bool) vec {
	return w.less(v, signed).not()
}

func (v vec) up(w vec) vec {
	if !w.isKnown() {
		return unknownVec(v.width)
	}
	moved := vec{width: v.width, known: v.known << w.what, what: v.what << w.what}.cut()
	return moved.filled(v.mask()&lowBits(w.what), truthVec(false))
}

// down moves down by the number w, the bit coming in ahead.
func (v vec) down(w, bit vec) vec {
	if !w.isKnown() {
		return unknownVec(v.width)
	}
	moved := vec{width: v.width, known: v.known >> w.what, what: v.what >> w.what}
	return moved.filled(v.mask()&^(v.mask()>>w.what), bit)
}

func (v vec) downZero(w vec) vec {
	return v.down(w, truthVec(false))
}

func (v vec) downSign(w vec) vec {
	return v.down(w, v.highest())
}

func (v vec) both(w vec) vec {
	return v.truth().and(w.truth())
}

func (v vec) either(w vec) vec {
	return v.truth().or(w.truth())
}

// all is the and of all bits: the opposite of whether one of them is not 1.
func (v vec) all() vec {
	return v.not().truth().not()
}

func (v vec) odd() vec {
	if !v.isKnown() {
		return unknownVec(1)
	}
	return numberVec(uint64(bits.OnesCount64(v.what)), 1)
}

func (v vec) none() vec {
	return v.truth().not()
}

type unaryOp func(v vec) vec

type binaryOp func(v, w vec) vec

// unaryOps is made by a call, as no table of functions stands at package level.
func unaryOps() [OpNone + 1]unaryOp {
	return [OpNone + 1]unaryOp{
		OpNot:  vec.not,
		OpNeg:  vec.neg,
		OpAll:  vec.all,
		OpAny:  vec.truth,
		OpOdd:  vec.odd,
		OpNone: vec.none,
	}
}

// binaryOps likewise, for numbers with a sign or without.
func binaryOps(signed bool) [OpEither + 1]binaryOp {
	return [OpEither + 1]binaryOp{
		OpAnd:    vec.and,
		OpOr:     vec.or,
		OpXor:    vec.xor,
		OpAdd:    vec.add,
		OpSub:    vec.sub,
		OpMul:    vec.mul,
		OpDiv:    func(v, w vec) vec { return v.quotient(w, signed) },
		OpRem:    func(v, w vec) vec { return v.rest(w, signed) },
		OpEq:     vec.equal,
		OpNe:     vec.unequal,
		OpSame:   vec.same,
		OpLt:     func(v, w vec) vec { return v.less(w, signed) },
		OpLe:     func(v, w vec) vec { return v.atMost(w, signed) },
		OpShl:    vec.up,
		OpShr:    vec.downZero,
		OpSar:    vec.downSign,
		OpBoth:   vec.both,
		OpEither: vec.either,
	}
}

// anyWidths tells the binary operations whose operands need not be of one width.
func anyWidths(op int) bool {
	return op >= OpShl && op <= OpEither
}

func BitsOK(a string) bool {
	_, ok := vecOf(a)
	return ok
}

func BitsOf(v int, width int) string {
	if !widthOK(width) {
		return ""
	}
	return numberVec(uint64(v), width).text()
}

func IntOf(a string, signed bool) (int, bool) {
	v, ok := vecOf(a)
	if !ok || !v.isKnown() {
		return 0, false
	}
	if signed {
		return int(v.signedNumber()), true
	}
	return int(v.what), true
}

func Resize(a string, width int, signed bool) string {
	v, ok := vecOf(a)
	if !ok || !widthOK(width) {
		return ""
	}
	return v.resized(width, signed).text()
}

// Part counts its bits without a sign: the difference of two ints may be more
// than an int holds.
func Part(a string, high, low int) string {
	v, ok := vecOf(a)
	if !ok || high < low || uint64(high)-uint64(low) >= MaxWidth {
		return ""
	}
	return v.slice(low, int(uint64(high)-uint64(low))+1).text()
}

func Join(list []string) string {
	var out [MaxWidth]byte
	width := 0
	for _, item := range list {
		if !BitsOK(item) || len(item) > MaxWidth-width {
			return ""
		}
		width += copy(out[width:], item)
	}
	return string(out[:width])
}

func Resolve(list []string) string {
	if len(list) == 0 || len(list) > MaxList {
		return ""
	}
	out, ok := vecOf(list[0])
	if !ok {
		return ""
	}
	for _, item := range list[1:] {
		v, ok := vecOf(item)
		if !ok || v.width != out.width {
			return ""
		}
		out = out.resolved(v)
	}
	return out.text()
}

func Choose(c, a, b string) string {
	truth, ok := vecOf(c)
	v, w, two := twoOf(a, b)
	if !ok || !two || v.width != w.width {
		return ""
	}
	return truth.choose(v, w).text()
}

func Unary(op int, a string) string {
	v, ok := vecOf(a)
	if !ok || op < OpNot || op > OpNone {
		return ""
	}
	return unaryOps()[op](v).text()
}

func Binary(op int, signed bool, a, b string) string {
	v, w, ok := twoOf(a, b)
	if !ok || op < OpAnd || op > OpEither {
		return ""
	}
	if v.width != w.width && !anyWidths(op) {
		return ""
	}
	return binaryOps(signed)[op](v, w).text()
}
