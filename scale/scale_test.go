package scale

import (
	"math"
	"math/big"
	"math/rand"
	"slices"
	"testing"

	"switchyard/api"
)

const (
	leastRaw    = -1 << 31 // P5.2's bounds of a raw value, written out anew
	greatestRaw = 1<<32 - 1
)

// raws are ordered raw values: the edges of the chapter and ordinary ones.
var raws = []int{
	math.MinInt, math.MinInt + 1, -1 << 62, -1 << 32, leastRaw - 2, leastRaw - 1, leastRaw, leastRaw + 1, leastRaw + 2,
	-1000001, -65536, -32769, -32768, -1001, -1000, -999, -501, -500, -499, -7, -3, -2, -1,
	0, 1, 2, 3, 4, 5, 7, 499, 500, 501, 999, 1000, 1001, 32767, 32768, 65535, 65536, 1000001,
	math.MaxInt32 - 1, math.MaxInt32, math.MaxInt32 + 1, greatestRaw - 1, greatestRaw, greatestRaw + 1, greatestRaw + 2,
	1 << 33, 1 << 62, math.MaxInt - 1, math.MaxInt,
}

// ints are numbers at and around powers of two, and ordinary ones.
func ints() []int {
	list := []int{math.MinInt, math.MinInt + 1, math.MaxInt - 1, math.MaxInt, 10, 13, 14, 40000, -40000}
	for k := range 63 {
		for _, d := range []int{-2, -1, 0, 1, 2} {
			if k == 62 && d > 0 {
				break
			}
			list = append(list, 1<<k+d, -1<<k+d)
		}
	}
	slices.Sort(list)
	return slices.Compact(list)
}

func scaled(num, den, off int) api.Point { return api.Point{Num: num, Den: den, Off: off} }

// mayByWords follows the words of P5.1.
func mayByWords(p api.Point) bool {
	return p.Num >= -1000 && p.Num <= 1000 && p.Den >= 1 && p.Den <= 1000 &&
		p.Off >= -1000000 && p.Off <= 1000000 && p.Dead >= 0 && p.Dead <= 1000000
}

// applyByWords follows the words of P5.2, by numbers of any size and by exact fractions.
func applyByWords(p api.Point, raw int) int {
	if !mayByWords(p) {
		return 0
	}
	if raw < leastRaw {
		raw = leastRaw
	}
	if raw > greatestRaw {
		raw = greatestRaw
	}
	product := new(big.Int).Mul(big.NewInt(int64(raw)), big.NewInt(int64(p.Num)))
	exact := new(big.Rat).SetFrac(product, big.NewInt(int64(p.Den)))
	sum := nearest(exact)
	sum.Add(sum, big.NewInt(int64(p.Off)))
	n, _ := clipByWords(sum, 32)
	return n
}

// nearest rounds the absolute value by its floor plus a half, and gives it its sign back.
func nearest(exact *big.Rat) *big.Int {
	up := new(big.Rat).Abs(exact)
	up.Add(up, big.NewRat(1, 2))
	whole := new(big.Int).Div(up.Num(), up.Denom())
	if exact.Sign() < 0 {
		whole.Neg(whole)
	}
	return whole
}

// clipByWords follows the words of P5.2 on Clip.
func clipByWords(n *big.Int, bits int) (int, bool) {
	if bits < 1 || bits > 62 {
		return 0, true
	}
	beyond := new(big.Int).Exp(big.NewInt(2), big.NewInt(int64(bits-1)), nil)
	least := new(big.Int).Neg(beyond)
	if n.Cmp(least) < 0 {
		return int(least.Int64()), true
	}
	if n.Cmp(beyond) >= 0 {
		return int(beyond.Int64()) - 1, true
	}
	return int(n.Int64()), false
}

// beyondByWords follows the words of P5.3.
func beyondByWords(old, now, dead int) bool {
	difference := new(big.Int).Sub(big.NewInt(int64(old)), big.NewInt(int64(now)))
	if dead < 0 {
		dead = 0
	}
	return difference.Abs(difference).Cmp(big.NewInt(int64(dead))) > 0
}

// anyInt is a random int of any size, often a small one.
func anyInt(r *rand.Rand) int { return int(r.Uint64()) >> r.Intn(64) }

// anyRaw is most often a raw value within its bounds.
func anyRaw(r *rand.Rand) int {
	if r.Intn(4) == 0 {
		return anyInt(r)
	}
	return leastRaw + r.Intn(greatestRaw-leastRaw+1)>>r.Intn(33)
}

// anyScale is a point whose scale and deadband are within their bounds.
func anyScale(r *rand.Rand) api.Point {
	return api.Point{Num: r.Intn(2001) - 1000, Den: 1 + r.Intn(1000), Off: r.Intn(2000001) - 1000000, Dead: r.Intn(1000001)}
}

func wantApply(t *testing.T, p api.Point, raw, want int) {
	t.Helper()
	if got := Apply(p, raw); got != want {
		t.Errorf("Apply(%+v, %d) is %d, not %d", p, raw, got, want)
	}
}

func wantClip(t *testing.T, n, bits, want int, cut bool) {
	t.Helper()
	if got, was := Clip(n, bits); got != want || was != cut {
		t.Errorf("Clip(%d, %d) is %d, %t, not %d, %t", n, bits, got, was, want, cut)
	}
}

func TestExamplesOfTheChapter(t *testing.T) { // P5.1, P5.2, P5.3
	if got := Signed(65535); got != -1 {
		t.Errorf("Signed(65535) is %d", got)
	}
	wantApply(t, scaled(1, 2, 0), 7, 4)
	wantApply(t, scaled(1, 2, 0), -7, -4)
	wantApply(t, scaled(3, 1, 5), 2, 11)
	wantClip(t, 40000, 16, 32767, true)
	if Beyond(10, 13, 3) || !Beyond(10, 14, 3) {
		t.Errorf("Beyond(10, 13, 3) is %t, Beyond(10, 14, 3) is %t", Beyond(10, 13, 3), Beyond(10, 14, 3))
	}
}

func TestMayAtTheBoundsOfEachField(t *testing.T) { // P5.1
	for _, c := range []struct {
		name            string
		field           func(p *api.Point) *int
		least, greatest int
	}{
		{"Num", func(p *api.Point) *int { return &p.Num }, -1000, 1000},
		{"Den", func(p *api.Point) *int { return &p.Den }, 1, 1000},
		{"Off", func(p *api.Point) *int { return &p.Off }, -1000000, 1000000},
		{"Dead", func(p *api.Point) *int { return &p.Dead }, 0, 1000000},
	} {
		middle := (c.least + c.greatest) / 2
		for _, n := range []int{c.least, c.least + 1, middle, c.greatest - 1, c.greatest} {
			p := api.Point{Num: 3, Den: 7, Off: -5, Dead: 9}
			*c.field(&p) = n
			if !May(p) {
				t.Errorf("%s %d: May(%+v) is false", c.name, n, p)
			}
		}
		for _, n := range []int{math.MinInt, -c.greatest - 1, c.least - 1, c.greatest + 1, 1 << 32, 1<<32 + 1, math.MaxInt} {
			p := api.Point{Num: 3, Den: 7, Off: -5, Dead: 9}
			*c.field(&p) = n
			if May(p) {
				t.Errorf("%s %d: May(%+v) is true", c.name, n, p)
			}
			wantApply(t, p, 1000, 0)
		}
	}
}

func TestMayOfBoundsTogether(t *testing.T) { // P5.1, P5.2
	for _, num := range []int{-1001, -1000, 0, 1000, 1001} {
		for _, den := range []int{-1, 0, 1, 1000, 1001} {
			for _, off := range []int{-1000001, -1000000, 0, 1000000, 1000001} {
				for _, dead := range []int{-1, 0, 1000000, 1000001} {
					p := api.Point{Num: num, Den: den, Off: off, Dead: dead}
					if May(p) != mayByWords(p) {
						t.Errorf("May(%+v) is %t", p, May(p))
					}
					wantApply(t, p, 12345, applyByWords(p, 12345))
				}
			}
		}
	}
	if May(api.Point{}) {
		t.Error("May of the zero point is true, though its Den is 0")
	}
}

func TestTheOtherFieldsDoNotMatter(t *testing.T) { // P5.1, P5.2
	for _, n := range []int{math.MinInt, -1, 0, 1, 8, 1001, 1000001, math.MaxInt} {
		for place := range 4 {
			others := [4]int{1, 1, 1, 1}
			others[place] = n
			p := api.Point{Kind: others[0], Poll: others[1], Place: others[2], Class: others[3], Num: 5, Den: 2, Off: 1}
			if !May(p) {
				t.Errorf("May(%+v) is false", p)
			}
			wantApply(t, p, 3, 9)
			p.Den = 0
			if May(p) {
				t.Errorf("May(%+v) is true", p)
			}
			wantApply(t, p, 3, 0)
		}
	}
}

func TestDeadDoesNotChangeApply(t *testing.T) { // P5.2
	for _, dead := range []int{0, 1, 500, 1000000} {
		p := api.Point{Num: 5, Den: 2, Off: 1, Dead: dead}
		for _, raw := range raws {
			wantApply(t, p, raw, applyByWords(scaled(5, 2, 1), raw))
		}
	}
}

func TestSignedOfEveryRegister(t *testing.T) { // P5.1
	for low := range 1 << 16 {
		want := low
		if low >= 1<<15 {
			want = low - 1<<16
		}
		for _, above := range []int{0, 1 << 16, -1 << 16, 1 << 31, 1 << 32, -1 << 32, 1 << 62, math.MinInt, math.MaxInt &^ 0xFFFF} {
			if got := Signed(above + low); got != want {
				t.Fatalf("Signed(%d) is %d, not %d", above+low, got, want)
			}
		}
	}
}

func TestSignedOfNegativeAndLongNumbers(t *testing.T) { // P5.1
	for _, c := range [][2]int{
		{0, 0}, {1, 1}, {32767, 32767}, {32768, -32768}, {65535, -1}, {65536, 0}, {98303, 32767}, {98304, -32768}, {131071, -1},
		{-1, -1}, {-32768, -32768}, {-32769, 32767}, {-65535, 1}, {-65536, 0}, {-65537, -1},
		{math.MinInt, 0}, {math.MinInt + 5, 5}, {math.MaxInt, -1}, {math.MaxInt - 0x8000, 32767},
	} {
		if got := Signed(c[0]); got != c[1] {
			t.Errorf("Signed(%d) is %d, not %d", c[0], got, c[1])
		}
	}
}

func TestApplyRoundsHalvesAwayFromZero(t *testing.T) { // P5.2
	for _, c := range []struct{ num, den, raw, want int }{
		{1, 2, 0, 0}, {1, 2, 1, 1}, {1, 2, -1, -1}, {1, 2, 3, 2}, {1, 2, -3, -2}, {1, 2, 2, 1}, {1, 2, -2, -1},
		{-1, 2, 1, -1}, {-1, 2, -1, 1}, {-1, 2, 7, -4}, {-1, 2, -7, 4},
		{1, 3, 1, 0}, {1, 3, 2, 1}, {1, 3, -1, 0}, {1, 3, -2, -1}, {1, 3, 4, 1}, {1, 3, 5, 2}, {-1, 3, 4, -1}, {-1, 3, 5, -2},
		{1, 1000, 499, 0}, {1, 1000, 500, 1}, {1, 1000, 501, 1}, {1, 1000, -499, 0}, {1, 1000, -500, -1}, {1, 1000, 1499, 1}, {1, 1000, 1500, 2}, {1, 1000, -1500, -2},
		{1, 999, 499, 0}, {1, 999, 500, 1}, {1, 999, -499, 0}, {1, 999, -500, -1},
		{3, 2, 1, 2}, {3, 2, -1, -2}, {5, 10, 1, 1}, {4, 10, 1, 0}, {0, 2, 1, 0}, {0, 1000, -1, 0},
	} {
		wantApply(t, scaled(c.num, c.den, 0), c.raw, c.want)
	}
}

func TestApplyAddsOffBehindTheRounding(t *testing.T) { // P5.2
	for _, c := range []struct{ num, den, off, raw, want int }{
		{1, 2, 1, -1, 0}, {1, 2, -1, 1, 0}, {1, 2, 10, -1, 9}, {1, 2, -10, 1, -9}, {1, 2, 10, -3, 8}, {-1, 2, 10, 3, 8},
		{0, 1, 9, 77, 9}, {0, 7, -1000000, math.MaxInt, -1000000}, {1, 1, 1000000, 0, 1000000}, {1, 1, -1000000, 1, -999999},
	} {
		wantApply(t, scaled(c.num, c.den, c.off), c.raw, c.want)
	}
}

func TestApplyLimitsRaw(t *testing.T) { // P5.2
	for _, raw := range []int{leastRaw, leastRaw - 1, leastRaw - 500, -1 << 32, -1 << 62, math.MinInt + 1, math.MinInt} {
		wantApply(t, scaled(1, 1000, 0), raw, -2147484)
		wantApply(t, scaled(-1, 1000, 0), raw, 2147484)
		wantApply(t, scaled(1, 2, 3), raw, -1<<30+3)
	}
	for _, raw := range []int{greatestRaw, greatestRaw + 1, greatestRaw + 500, 1 << 33, 1 << 62, math.MaxInt - 1, math.MaxInt} {
		wantApply(t, scaled(1, 1000, 0), raw, 4294967)
		wantApply(t, scaled(-1, 1000, 0), raw, -4294967)
		wantApply(t, scaled(1, 3, 3), raw, 1431655768)
	}
	wantApply(t, scaled(1, 2, -1000000), leastRaw+2, -1<<30+1-1000000)
	wantApply(t, scaled(1, 3, 0), greatestRaw-3, 1431655764)
}

func TestApplyAtTheBoundsOf32Bits(t *testing.T) { // P5.2
	for _, c := range []struct{ num, den, off, raw, want int }{
		{1, 1, 0, math.MaxInt32 - 1, math.MaxInt32 - 1}, {1, 1, 0, math.MaxInt32, math.MaxInt32}, {1, 1, 0, math.MaxInt32 + 1, math.MaxInt32}, {1, 1, 0, greatestRaw, math.MaxInt32},
		{1, 1, 0, math.MinInt32 + 1, math.MinInt32 + 1}, {1, 1, 0, math.MinInt32, math.MinInt32}, {1, 1, 0, math.MinInt32 - 1, math.MinInt32},
		{1, 1, 1, math.MaxInt32 - 1, math.MaxInt32}, {1, 1, 1, math.MaxInt32, math.MaxInt32}, {1, 1, -1, math.MaxInt32 + 1, math.MaxInt32}, {1, 1, -1, math.MaxInt32, math.MaxInt32 - 1},
		{1, 1, -1, math.MinInt32 + 1, math.MinInt32}, {1, 1, -1, math.MinInt32, math.MinInt32}, {1, 1, 1, math.MinInt32, math.MinInt32 + 1},
		{1, 1, -1000000, math.MaxInt32 + 1000000, math.MaxInt32}, {1, 1, -1000000, math.MaxInt32 + 999999, math.MaxInt32 - 1},
		{-1, 1, 0, math.MinInt32, math.MaxInt32}, {-1, 1, 0, math.MinInt32 + 1, math.MaxInt32}, {-1, 1, 0, math.MaxInt32, -math.MaxInt32}, {-1, 1, 0, 1 << 31, math.MinInt32}, {-1, 1, 0, 1<<31 + 1, math.MinInt32},
		{1, 2, 0, greatestRaw - 1, math.MaxInt32}, {1, 2, 0, greatestRaw, math.MaxInt32}, {1, 2, -1, greatestRaw, math.MaxInt32}, {1, 2, -2, greatestRaw, math.MaxInt32 - 1},
		{1000, 1, 0, greatestRaw, math.MaxInt32}, {-1000, 1, 0, greatestRaw, math.MinInt32}, {1000, 1, 0, math.MinInt, math.MinInt32}, {-1000, 1, 0, math.MinInt, math.MaxInt32},
		{1000, 1000, 0, math.MaxInt32, math.MaxInt32}, {1000, 1000, 0, math.MinInt32, math.MinInt32}, {1000, 999, 1000000, math.MaxInt32, math.MaxInt32}, {1000, 1, 0, 2147483, 2147483000}, {1000, 1, 0, 2147484, math.MaxInt32},
	} {
		wantApply(t, scaled(c.num, c.den, c.off), c.raw, c.want)
	}
}

func TestApplyFollowsTheWords(t *testing.T) { // P5.2
	for _, num := range []int{-1000, -999, -3, -1, 0, 1, 2, 7, 999, 1000} {
		for _, den := range []int{1, 2, 3, 4, 10, 999, 1000} {
			for _, off := range []int{-1000000, -1, 0, 1, 1000000} {
				for _, raw := range raws {
					p := scaled(num, den, off)
					wantApply(t, p, raw, applyByWords(p, raw))
				}
			}
		}
	}
	r := rand.New(rand.NewSource(51))
	for range 50000 {
		p, raw := anyScale(r), anyRaw(r)
		wantApply(t, p, raw, applyByWords(p, raw))
	}
}

func TestClipAtTheBoundsOfEveryWidth(t *testing.T) { // P5.2
	for bits := 1; bits <= 62; bits++ {
		least, greatest := -1<<(bits-1), 1<<(bits-1)-1
		wantClip(t, least, bits, least, false)
		wantClip(t, greatest, bits, greatest, false)
		wantClip(t, least-1, bits, least, true)
		wantClip(t, greatest+1, bits, greatest, true)
		wantClip(t, math.MinInt, bits, least, true)
		wantClip(t, math.MaxInt, bits, greatest, true)
		wantClip(t, 0, bits, 0, false)
		wantClip(t, -1, bits, -1, false)
	}
}

func TestClipOfWrongWidths(t *testing.T) { // P5.2
	for _, bits := range []int{math.MinInt, -64, -63, -62, -16, -2, -1, 0, 63, 64, 65, 80, 1 << 32, 1<<32 + 16, math.MaxInt} {
		for _, n := range []int{math.MinInt, -40000, -1, 0, 1, 5, 40000, math.MaxInt} {
			wantClip(t, n, bits, 0, true)
		}
	}
}

func TestClipFollowsTheWords(t *testing.T) { // P5.2
	for bits := -3; bits <= 66; bits++ {
		for _, n := range ints() {
			want, cut := clipByWords(big.NewInt(int64(n)), bits)
			wantClip(t, n, bits, want, cut)
		}
	}
}

func TestBeyondAtTheDeadband(t *testing.T) { // P5.3
	for _, c := range []struct {
		old, now, dead int
		want           bool
	}{
		{10, 13, 3, false}, {10, 14, 3, true}, {13, 10, 3, false}, {14, 10, 3, true}, {10, 12, 3, false},
		{-2, 1, 3, false}, {-2, 2, 3, true}, {1, -2, 3, false}, {2, -2, 3, true}, {-10, -13, 3, false}, {-10, -14, 3, true}, {-14, -10, 3, true},
		{5, 5, 0, false}, {5, 6, 0, true}, {6, 5, 0, true}, {-5, -5, 0, false}, {0, 0, 0, false}, {-1, 1, 0, true}, {-5, 5, 0, true},
		{5, 5, -1, false}, {5, 6, -1, true}, {6, 5, -9, true}, {5, 5, math.MinInt, false}, {5, 6, math.MinInt, true}, {math.MinInt, math.MaxInt, math.MinInt, true},
		{0, 1000000, 1000000, false}, {0, 1000001, 1000000, true}, {1 << 32, 0, 0, true}, {1 << 32, 0, 1 << 32, false},
	} {
		if got := Beyond(c.old, c.now, c.dead); got != c.want {
			t.Errorf("Beyond(%d, %d, %d) is %t", c.old, c.now, c.dead, got)
		}
	}
}

func TestBeyondWhereTheDifferenceDoesNotFit(t *testing.T) { // P5.3
	for _, c := range []struct {
		old, now, dead int
		want           bool
	}{
		{math.MinInt, math.MaxInt, math.MaxInt, true}, {math.MinInt, math.MaxInt, 0, true}, {math.MinInt, math.MaxInt, 1, true},
		{math.MinInt, 0, math.MaxInt, true}, {math.MinInt, -1, math.MaxInt, false}, {math.MinInt, -1, math.MaxInt - 1, true},
		{0, math.MaxInt, math.MaxInt, false}, {0, math.MaxInt, math.MaxInt - 1, true}, {-1, math.MaxInt, math.MaxInt, true},
		{math.MinInt, math.MinInt, 0, false}, {math.MaxInt, math.MaxInt, 0, false}, {math.MinInt, math.MinInt + 1, 0, true}, {math.MaxInt, math.MaxInt - 1, 0, true},
		{-1 << 62, 1 << 62, math.MaxInt, true}, {-1 << 62, 1<<62 - 1, math.MaxInt, false},
	} {
		if got := Beyond(c.old, c.now, c.dead); got != c.want {
			t.Errorf("Beyond(%d, %d, %d) is %t", c.old, c.now, c.dead, got)
		}
		if got := Beyond(c.now, c.old, c.dead); got != c.want {
			t.Errorf("Beyond(%d, %d, %d) is %t", c.now, c.old, c.dead, got)
		}
	}
}

func TestBeyondFollowsTheWords(t *testing.T) { // P5.3
	deads := []int{math.MinInt, -1, 0, 1, 2, 3, 1 << 31, 1 << 62, math.MaxInt - 1, math.MaxInt}
	for _, old := range ints() {
		for _, now := range ints() {
			dead := deads[uint(old^now)%uint(len(deads))]
			if got := Beyond(old, now, dead); got != beyondByWords(old, now, dead) {
				t.Errorf("Beyond(%d, %d, %d) is %t", old, now, dead, got)
			}
		}
	}
	r := rand.New(rand.NewSource(53))
	for range 50000 {
		old, now, dead := anyInt(r), anyInt(r), anyInt(r)
		if got := Beyond(old, now, dead); got != beyondByWords(old, now, dead) {
			t.Errorf("Beyond(%d, %d, %d) is %t", old, now, dead, got)
		}
	}
}

// wantOrder checks that Apply does not turn back between two ordered raw values.
func wantOrder(t *testing.T, p api.Point, less, more int) {
	t.Helper()
	low, high := Apply(p, less), Apply(p, more)
	if p.Num >= 0 && low > high || p.Num <= 0 && low < high {
		t.Errorf("%+v: Apply(%d) is %d, Apply(%d) is %d", p, less, low, more, high)
	}
}

func TestApplyRisesOrFallsWithRaw(t *testing.T) { // P5.4
	r := rand.New(rand.NewSource(54))
	for range 2000 {
		p := anyScale(r)
		for i := 1; i < len(raws); i++ {
			wantOrder(t, p, raws[i-1], raws[i])
		}
		first, second := anyRaw(r), anyRaw(r)
		wantOrder(t, p, min(first, second), max(first, second))
	}
	for _, p := range []api.Point{scaled(1, 2, 0), scaled(-1, 2, 0), scaled(3, 7, -9), scaled(-3, 7, 9), scaled(1000, 1, 0), scaled(-1000, 1, 0), scaled(0, 5, 3)} {
		for raw := -3000; raw < 3000; raw++ {
			wantOrder(t, p, raw, raw+1)
		}
	}
}

func TestApplyRisesAndFallsIndeed(t *testing.T) { // P5.4
	if low, high := Apply(scaled(1, 10, 0), 0), Apply(scaled(1, 10, 0), 10); low != 0 || high != 1 {
		t.Errorf("with a positive Num: %d, %d", low, high)
	}
	if low, high := Apply(scaled(-1, 10, 0), 0), Apply(scaled(-1, 10, 0), 10); low != 0 || high != -1 {
		t.Errorf("with a negative Num: %d, %d", low, high)
	}
}

func TestApplyOfTheNeutralScaleIsRawClipped(t *testing.T) { // P5.4
	for _, raw := range slices.Concat(raws, ints()) {
		want, _ := Clip(raw, 32)
		wantApply(t, scaled(1, 1, 0), raw, want)
	}
}
