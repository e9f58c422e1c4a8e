package rtu

import (
	"bytes"
	"math"
	"math/rand"
	"slices"
	"testing"

	"switchyard/api"
)

// mostKept is the most bytes that a Framer keeps.
const mostKept = 257

// model follows the words of P8.2.
type model struct {
	silence, quiet int
	collected      []byte
}

func (m *model) take(b byte) {
	m.collected = append(m.collected, b)
	m.collected = m.collected[:min(len(m.collected), mostKept)]
	m.quiet = 0
}

func (m *model) tick() ([]byte, bool) {
	if len(m.collected) == 0 {
		return nil, false
	}
	if m.quiet++; m.quiet != m.silence {
		return nil, false
	}
	frame := m.collected
	*m = model{silence: m.silence}
	return frame, true
}

func (m *model) copied() *model {
	return &model{m.silence, m.quiet, slices.Clone(m.collected)}
}

func framer(t *testing.T, silence int) *Framer {
	t.Helper()
	f, err := New(silence)
	if err != nil || f == nil {
		t.Fatalf("New(%d): %v", silence, err)
	}
	return f
}

// feed hands over bytes one by one.
func feed(f *Framer, list ...byte) {
	for _, b := range list {
		f.Byte(b)
	}
}

func wantPending(t *testing.T, what string, f *Framer, want int) {
	t.Helper()
	if got := f.Pending(); got != want {
		t.Fatalf("%s: Pending is %d, not %d", what, got, want)
	}
}

// wantQuiet ticks n times, of which none ends a frame or changes what is collected.
func wantQuiet(t *testing.T, what string, f *Framer, n int) {
	t.Helper()
	pending := f.Pending()
	for i := range n {
		if b, ok := f.Tick(); len(b) != 0 || ok {
			t.Fatalf("%s: tick %d of %d ends % x, %t", what, i+1, n, b, ok)
		}
		wantPending(t, what, f, pending)
	}
}

// wantFrame ticks once, which ends the frame want.
func wantFrame(t *testing.T, what string, f *Framer, want ...byte) {
	t.Helper()
	wantPending(t, what, f, len(want))
	if b, ok := f.Tick(); !bytes.Equal(b, want) || !ok {
		t.Fatalf("%s: the tick ends % x, %t, not % x", what, b, ok, want)
	}
	wantPending(t, what, f, 0)
}

func TestExampleOfFinding(t *testing.T) { // P8.2
	f := framer(t, 2)
	f.Byte(1)
	wantQuiet(t, "after 01", f, 1)
	f.Byte(2)
	wantQuiet(t, "after 02", f, 1)
	wantFrame(t, "at the end", f, 1, 2)
}

func TestNewOfEverySilence(t *testing.T) { // P8.2
	for silence := 1; silence <= 100; silence++ {
		f := framer(t, silence)
		wantPending(t, "new", f, 0)
		wantQuiet(t, "new", f, 2*silence+1)
	}
	wrong := []int{0, -1, 101, 102, -2, -100, -101, 255, 256, 257, 1 << 32, 1<<32 + 1, math.MinInt, math.MinInt + 1, math.MaxInt}
	for _, silence := range wrong {
		f, err := New(silence)
		wantFault(t, "New", err, silence, api.ErrRange)
		if f != nil {
			t.Errorf("New(%d) gives a Framer beside an error", silence)
		}
	}
}

func TestFramersAreOfTheirOwn(t *testing.T) { // P8.2
	first, second := framer(t, 1), framer(t, 1)
	feed(first, 1, 2)
	wantPending(t, "beside another", second, 0)
	feed(second, 3)
	wantFrame(t, "the first", first, 1, 2)
	wantFrame(t, "the second", second, 3)
	wantPending(t, "new again", framer(t, 1), 0)
}

func TestSilenceEndsAFrame(t *testing.T) { // P8.2
	for silence := 1; silence <= 100; silence++ {
		f := framer(t, silence)
		for n := 1; n <= 3; n++ {
			list := mixed(n, silence)
			feed(f, list...)
			wantQuiet(t, "short of the silence", f, silence-1)
			wantFrame(t, "at the silence", f, list...)
			wantQuiet(t, "behind the frame", f, silence+1)
		}
	}
}

func TestAByteBeginsTheSilenceAnew(t *testing.T) { // P8.2, P8.4
	for silence := 1; silence <= 100; silence++ {
		f := framer(t, silence)
		for gap := range silence {
			list := mixed(5, gap)
			for _, b := range list {
				wantQuiet(t, "between bytes", f, gap)
				f.Byte(b)
			}
			wantQuiet(t, "behind the bytes", f, silence-1)
			wantFrame(t, "at the silence", f, list...)
		}
	}
}

func TestTicksAheadOfAFrameDoNotCount(t *testing.T) { // P8.2
	for _, silence := range []int{1, 2, 3, 50, 100} {
		for ahead := range 2*silence + 1 {
			f := framer(t, silence)
			wantQuiet(t, "ahead", f, ahead)
			f.Byte(7)
			wantQuiet(t, "short of the silence", f, silence-1)
			wantFrame(t, "at the silence", f, 7)
		}
	}
}

func TestOneFrameBehindTheOther(t *testing.T) { // P8.2
	f := framer(t, 3)
	for n := 1; n <= mostKept; n++ {
		list := mixed(n, n)
		feed(f, list...)
		wantQuiet(t, "short of the silence", f, 2)
		wantFrame(t, "at the silence", f, list...)
	}
}

func TestTheFirstBytesAreKept(t *testing.T) { // P8.2
	for _, n := range []int{254, 255, 256, 257, 258, 259, 300, 512, 513, 514, 600, 70000} {
		f := framer(t, 2)
		list := mixed(n, n)
		for i, b := range list {
			wantPending(t, "ahead of a byte", f, min(i, mostKept))
			f.Byte(b)
			wantPending(t, "behind a byte", f, min(i+1, mostKept))
		}
		wantQuiet(t, "short of the silence", f, 1)
		wantFrame(t, "at the silence", f, list[:min(n, mostKept)]...)
		feed(f, 1, 2)
		wantQuiet(t, "the next one", f, 1)
		wantFrame(t, "the next one", f, 1, 2)
	}
}

func TestABytePastTheKeptOnesBeginsTheSilenceAnew(t *testing.T) { // P8.2
	for _, n := range []int{255, 256, 257, 258, 400} {
		f := framer(t, 4)
		list := mixed(n, n)
		feed(f, list...)
		for range 10 {
			wantQuiet(t, "between bytes", f, 3)
			f.Byte(0xEE)
			list = append(list, 0xEE)
		}
		wantQuiet(t, "short of the silence", f, 3)
		wantFrame(t, "at the silence", f, list[:min(len(list), mostKept)]...)
	}
}

func TestATooLongFrameIsRefusedByOpen(t *testing.T) { // P8.1, P8.2
	f := framer(t, 1)
	// The first 256 of the kept bytes alone are a right frame.
	feed(f, closed(mixed(254, 11)...)...)
	feed(f, 1, 2, 3)
	b, ok := f.Tick()
	if !ok {
		t.Fatal("no frame")
	}
	wantNotOpened(t, b, api.ErrLong)
}

func TestDrop(t *testing.T) { // P8.2
	for silence := 1; silence <= 100; silence++ {
		for _, quiet := range []int{0, 1, silence / 2, silence - 2, silence - 1} {
			if quiet < 0 || quiet >= silence {
				continue
			}
			f := framer(t, silence)
			feed(f, 1, 2, 3)
			wantQuiet(t, "ahead of Drop", f, quiet)
			f.Drop()
			wantPending(t, "behind Drop", f, 0)
			wantQuiet(t, "behind Drop", f, quiet)
			feed(f, 4, 5)
			wantQuiet(t, "the frame behind Drop", f, silence-1)
			wantFrame(t, "the frame behind Drop", f, 4, 5)
		}
	}
}

func TestDropAtOtherTimes(t *testing.T) { // P8.2
	f := framer(t, 2)
	f.Drop()
	wantPending(t, "new", f, 0)
	wantQuiet(t, "new", f, 3)
	feed(f, 1)
	f.Drop()
	f.Drop()
	wantQuiet(t, "dropped twice", f, 3)
	feed(f, mixed(400, 12)...)
	f.Drop()
	wantPending(t, "too many bytes", f, 0)
	feed(f, mixed(400, 13)...)
	wantPending(t, "too many bytes again", f, mostKept)
	wantQuiet(t, "too many bytes again", f, 1)
	wantFrame(t, "too many bytes again", f, mixed(400, 13)[:mostKept]...)
	f.Drop()
	wantQuiet(t, "behind a frame", f, 3)
}

func TestCopyIsInTheSameState(t *testing.T) { // P8.2
	for _, silence := range []int{1, 2, 3, 100} {
		for _, n := range []int{0, 1, 5, 256, 257, 300} {
			for quiet := range min(silence, 4) {
				f := framer(t, silence)
				list := mixed(n, 14)
				feed(f, list...)
				wantQuiet(t, "ahead of Copy", f, quiet)
				wantCopied(t, f, f.Copy(), silence, quiet, list[:min(n, mostKept)])
			}
		}
	}
}

// wantCopied brings a copy to the end of its frame, then what it was copied from, and asks both for one more frame.
func wantCopied(t *testing.T, f, own *Framer, silence, quiet int, list []byte) {
	t.Helper()
	for _, each := range []*Framer{own, f} {
		wantPending(t, "copied", each, len(list))
		if len(list) > 0 {
			wantQuiet(t, "copied", each, silence-quiet-1)
			wantFrame(t, "copied", each, list...)
		}
		wantQuiet(t, "behind the frame", each, silence)
		feed(each, 8, 9)
		wantQuiet(t, "one more frame", each, silence-1)
		wantFrame(t, "one more frame", each, 8, 9)
	}
}

func TestCopiesGoTheirOwnWay(t *testing.T) { // P8.2
	for n := range 40 {
		list := mixed(n, 15)
		f := framer(t, 3)
		feed(f, list...)
		first := f.Copy()
		second := f.Copy()
		again := first.Copy()
		feed(f, 1)
		feed(first, 2, 3)
		feed(second, 4)
		second.Drop()
		wantPending(t, "the first", f, n+1)
		wantPending(t, "its copy", first, n+2)
		wantPending(t, "its dropped copy", second, 0)
		wantPending(t, "the copy of its copy", again, n)
		wantQuiet(t, "the first", f, 2)
		wantQuiet(t, "its copy", first, 1)
		feed(again, 5)
		wantFrame(t, "the first", f, append(slices.Clone(list), 1)...)
		wantQuiet(t, "its copy", first, 1)
		wantFrame(t, "its copy", first, append(slices.Clone(list), 2, 3)...)
		wantQuiet(t, "the copy of its copy", again, 2)
		wantFrame(t, "the copy of its copy", again, append(slices.Clone(list), 5)...)
		wantQuiet(t, "its dropped copy", second, 4)
	}
}

func TestDropLeavesACopyAlone(t *testing.T) { // P8.2
	f := framer(t, 1)
	feed(f, 1, 2, 3)
	own := f.Copy()
	f.Drop()
	feed(f, 7, 7, 7, 7)
	wantFrame(t, "the copy", own, 1, 2, 3)
	wantFrame(t, "what it was copied from", f, 7, 7, 7, 7)
}

func TestFramesKeepAndShareNothing(t *testing.T) { // P8.3
	for _, n := range []int{1, 2, 3, 8, 9, 33, 256, 257, 300} {
		list := mixed(n, 16)
		want := list[:min(n, mostKept)]
		f := framer(t, 1)
		feed(f, list...)
		own := f.Copy()
		first, _ := f.Tick()
		feed(f, list...)
		overwrite(first)
		first = append(first[:0], bytes.Repeat([]byte{0x5A}, cap(first))...)
		second, _ := f.Tick()
		if !bytes.Equal(second, want) {
			t.Errorf("P8.3: %d bytes: what is written into a frame is seen in the next one", n)
		}
		feed(f, ^byte(0), 1, 2)
		third, _ := own.Tick()
		if !bytes.Equal(third, want) || !bytes.Equal(second, want) || !bytes.Equal(first, bytes.Repeat([]byte{0x5A}, len(first))) {
			t.Errorf("P8.3: %d bytes: frames share memory with others or with a Framer", n)
		}
		overwrite(third)
		wantFrame(t, "behind the frames", f, ^byte(0), 1, 2)
		if !bytes.Equal(second, want) {
			t.Errorf("P8.3: %d bytes: the frames of a copy share memory", n)
		}
	}
}

func TestBytesWithLessSilenceAreOneFrame(t *testing.T) { // P8.4
	for _, silence := range []int{1, 2, 3, 7, 100} {
		one, _ := Frame(17, []byte{3, 0, 107, 0, 3})
		two, _ := Frame(18, []byte{0x83, 2})
		for gap := range silence {
			f := framer(t, silence)
			feed(f, one...)
			wantQuiet(t, "less silence", f, gap)
			feed(f, two...)
			wantQuiet(t, "short of the silence", f, silence-1)
			wantFrame(t, "one frame", f, slices.Concat(one, two)...)
		}
		f := framer(t, silence)
		for _, frame := range [][]byte{one, two} {
			feed(f, frame...)
			wantQuiet(t, "short of the silence", f, silence-1)
			wantFrame(t, "two frames", f, frame...)
		}
	}
}

func TestFoundFramesAreOpened(t *testing.T) { // P8.4
	f := framer(t, 5)
	for n := 1; n <= longestPDU; n++ {
		pdu := mixed(n, 17)
		frame, _ := Frame(n%256, pdu)
		for i, b := range frame {
			f.Byte(b)
			wantQuiet(t, "within a frame", f, i%5)
		}
		f.Byte(0)
		f.Drop()
		feed(f, frame...)
		wantQuiet(t, "short of the silence", f, 4)
		found, ok := f.Tick()
		if !ok {
			t.Fatalf("P8.4: no frame of %d bytes", len(frame))
		}
		wantOpened(t, found, n%256, pdu)
	}
}

func TestFramersFollowTheWords(t *testing.T) { // P8.2
	random := rand.New(rand.NewSource(8))
	for range 400 {
		silence := 1 + random.Intn(4)
		if random.Intn(5) == 0 {
			silence = 1 + random.Intn(100)
		}
		followWords(t, random, framer(t, silence), &model{silence: silence})
	}
}

// followWords makes random calls of a Framer and of the model, and goes on with copies of both now and then.
func followWords(t *testing.T, random *rand.Rand, f *Framer, m *model) {
	t.Helper()
	for range 300 {
		switch n := random.Intn(40); {
		case n == 0:
			f.Drop()
			m.collected, m.quiet = nil, 0
		case n == 1:
			left := f
			f, m = f.Copy(), m.copied()
			feed(left, 1, 2, 3)
			left.Tick()
		case n == 2:
			for range random.Intn(300) {
				f.Byte(byte(n))
				m.take(byte(n))
				n += 7
			}
		case n < 20:
			b := byte(random.Intn(256))
			f.Byte(b)
			m.take(b)
		default:
			b, ok := f.Tick()
			if want, end := m.tick(); !bytes.Equal(b, want) || ok != end {
				t.Fatalf("silence %d: Tick is % x, %t, not % x, %t", m.silence, b, ok, want, end)
			}
		}
		wantPending(t, "at random calls", f, len(m.collected))
	}
}
