package wire

import (
	"bytes"
	"errors"
	"math"
	"testing"

	"switchyard/api"
	"switchyard/fail"
)

// kinds are the ways to read and to write a number, by name.
var kinds = []struct {
	name  string
	read  func(*Reader, int) (int, error)
	write func(*Writer, int, int) error
}{
	{"U", (*Reader).U, (*Writer).U},
	{"I", (*Reader).I, (*Writer).I},
	{"B", (*Reader).B, (*Writer).B},
}

// wrongWidths are numbers of bytes that no number has.
var wrongWidths = []int{0, -1, 7, 8, 64, math.MinInt, math.MaxInt}

// wantFail checks that err is the code c wrapped once, by wire and the place.
func wantFail(t *testing.T, what string, err error, place int, c api.Code) {
	t.Helper()
	var f *fail.Fail
	if !errors.As(err, &f) || *f != (fail.Fail{Where: "wire", Place: place, Err: c}) {
		t.Errorf("%s: %v, not wire %d: %v", what, err, place, c)
	}
}

// wantAt checks where a Reader stands.
func wantAt(t *testing.T, what string, r *Reader, place, left int) {
	t.Helper()
	if r.Place() != place || r.Left() != left {
		t.Errorf("%s: place %d, left %d, not %d, %d", what, r.Place(), r.Left(), place, left)
	}
}

func TestNewReaderStandsAtTheBeginning(t *testing.T) { // P2.1
	for _, b := range [][]byte{nil, {}, {7}, {1, 2, 3}} {
		wantAt(t, "new", NewReader(b), 0, len(b))
	}
}

func TestReadNumbers(t *testing.T) { // P2.1
	for _, c := range []struct {
		b         []byte
		u, i, big int
	}{
		{[]byte{0x00}, 0, 0, 0},
		{[]byte{0x7f}, 127, 127, 127},
		{[]byte{0x80}, 128, -128, 128},
		{[]byte{0xff}, 255, -1, 255},
		{[]byte{0x34, 0x12}, 0x1234, 0x1234, 0x3412},
		{[]byte{0xff, 0x7f}, 0x7fff, 32767, 0xff7f},
		{[]byte{0x00, 0x80}, 0x8000, -32768, 0x0080},
		{[]byte{0xff, 0xff}, 0xffff, -1, 0xffff},
		{[]byte{1, 2, 3}, 0x030201, 0x030201, 0x010203},
		{[]byte{1, 2, 0x83}, 0x830201, 0x830201 - 1<<24, 0x010283},
		{[]byte{1, 2, 3, 4}, 0x04030201, 0x04030201, 0x01020304},
		{[]byte{1, 2, 3, 0xfe}, 0xfe030201, 0xfe030201 - 1<<32, 0x010203fe},
		{[]byte{1, 2, 3, 4, 5}, 0x0504030201, 0x0504030201, 0x0102030405},
		{[]byte{0, 0, 0, 0, 0x80}, 1 << 39, -1 << 39, 0x80},
		{[]byte{1, 2, 3, 4, 5, 6}, 0x060504030201, 0x060504030201, 0x010203040506},
		{[]byte{0, 0, 0, 0, 0, 0x80}, 1 << 47, -1 << 47, 0x80},
		{[]byte{255, 255, 255, 255, 255, 0x7f}, 1<<47 - 1, 1<<47 - 1, 0xffffffffff7f},
		{[]byte{255, 255, 255, 255, 255, 255}, 1<<48 - 1, -1, 1<<48 - 1},
	} {
		for k, want := range []int{c.u, c.i, c.big} {
			n := len(c.b)
			r := NewReader(append(append([]byte{0xaa}, c.b...), 0xbb))
			if _, err := r.U(1); err != nil {
				t.Fatal(err)
			}
			if v, err := kinds[k].read(r, n); v != want || err != nil {
				t.Errorf("%s(%d) of % x: %d, %v, not %d", kinds[k].name, n, c.b, v, err, want)
			}
			wantAt(t, kinds[k].name, r, 1+n, 1)
			if v, err := r.U(1); v != 0xbb || err != nil {
				t.Errorf("the byte behind % x: %x, %v", c.b, v, err)
			}
		}
	}
}

func TestReadNumberOfWrongWidth(t *testing.T) { // P2.1: the width counts ahead of what is left
	for _, k := range kinds {
		for _, n := range wrongWidths {
			for _, left := range []int{0, 1, 20} {
				r := NewReader(make([]byte, 3+left))
				if _, err := r.Bytes(3); err != nil {
					t.Fatal(err)
				}
				v, err := k.read(r, n)
				wantFail(t, k.name, err, 3, api.ErrRange)
				wantAt(t, k.name, r, 3, left)
				if v != 0 {
					t.Errorf("%s(%d): %d beside an error", k.name, n, v)
				}
			}
		}
	}
}

func TestReadNumberOfTooFewBytes(t *testing.T) { // P2.1: nothing is read
	for _, k := range kinds {
		for n := 1; n <= 6; n++ {
			for left := range n {
				r := NewReader(bytes.Repeat([]byte{0xff}, 2+left))
				if _, err := r.U(2); err != nil {
					t.Fatal(err)
				}
				v, err := k.read(r, n)
				wantFail(t, k.name, err, 2, api.ErrShort)
				wantAt(t, k.name, r, 2, left)
				if v != 0 {
					t.Errorf("%s(%d): %d beside an error", k.name, n, v)
				}
				if b, err := r.Bytes(left); len(b) != left || err != nil {
					t.Errorf("%s(%d): then %d bytes, %v", k.name, n, len(b), err)
				}
			}
		}
	}
}

func TestReadBytes(t *testing.T) { // P2.1
	r := NewReader([]byte{1, 2, 3, 4, 5})
	for _, c := range []struct {
		n    int
		want []byte
		code api.Code
	}{
		{0, nil, api.OK},
		{2, []byte{1, 2}, api.OK},
		{4, nil, api.ErrShort},
		{-1, nil, api.ErrRange},
		{math.MinInt, nil, api.ErrRange},
		{math.MaxInt, nil, api.ErrShort},
		{3, []byte{3, 4, 5}, api.OK},
		{0, nil, api.OK},
		{1, nil, api.ErrShort},
		{-1, nil, api.ErrRange},
	} {
		place := r.Place()
		b, err := r.Bytes(c.n)
		if c.code == api.OK && err != nil {
			t.Errorf("Bytes(%d) at %d: %v", c.n, place, err)
		}
		if c.code != api.OK {
			wantFail(t, "Bytes", err, place, c.code)
		}
		if !bytes.Equal(b, c.want) {
			t.Errorf("Bytes(%d) at %d: % x, not % x", c.n, place, b, c.want)
		}
		wantAt(t, "Bytes", r, place+len(c.want), 5-place-len(c.want))
	}
}

func TestDone(t *testing.T) { // P2.1
	for size := range 4 {
		r := NewReader(make([]byte, size))
		for place := range size {
			wantFail(t, "Done", r.Done(), place, api.ErrLong)
			wantAt(t, "Done", r, place, size-place)
			if _, err := r.U(1); err != nil {
				t.Fatal(err)
			}
		}
		if err := r.Done(); err != nil {
			t.Errorf("Done of %d read bytes: %v", size, err)
		}
	}
}

func TestNewWriterHasWrittenNothing(t *testing.T) { // P2.2
	if b := NewWriter().Out(); len(b) != 0 {
		t.Errorf("% x", b)
	}
}

func TestWriteNumbers(t *testing.T) { // P2.2
	for _, c := range []struct {
		kind, n, v int
		want       []byte
	}{
		{0, 1, 0x12, []byte{0x12}},
		{0, 2, 0x1234, []byte{0x34, 0x12}},
		{0, 3, 0x123456, []byte{0x56, 0x34, 0x12}},
		{0, 4, 0x12345678, []byte{0x78, 0x56, 0x34, 0x12}},
		{0, 5, 0x123456789a, []byte{0x9a, 0x78, 0x56, 0x34, 0x12}},
		{0, 6, 0x123456789abc, []byte{0xbc, 0x9a, 0x78, 0x56, 0x34, 0x12}},
		{1, 1, -2, []byte{0xfe}},
		{1, 2, -2, []byte{0xfe, 0xff}},
		{1, 3, 2, []byte{2, 0, 0}},
		{1, 4, -1 << 31, []byte{0, 0, 0, 0x80}},
		{1, 5, 1<<39 - 1, []byte{255, 255, 255, 255, 127}},
		{1, 6, -0x123456789abc, []byte{0x44, 0x65, 0x87, 0xa9, 0xcb, 0xed}},
		{2, 1, 0x12, []byte{0x12}},
		{2, 2, 0x1234, []byte{0x12, 0x34}},
		{2, 3, 0x123456, []byte{0x12, 0x34, 0x56}},
		{2, 4, 0x12345678, []byte{0x12, 0x34, 0x56, 0x78}},
		{2, 5, 0x123456789a, []byte{0x12, 0x34, 0x56, 0x78, 0x9a}},
		{2, 6, 0x123456789abc, []byte{0x12, 0x34, 0x56, 0x78, 0x9a, 0xbc}},
	} {
		w := NewWriter()
		w.Bytes([]byte{0xaa})
		if err := kinds[c.kind].write(w, c.n, c.v); err != nil {
			t.Errorf("%s(%d, %x): %v", kinds[c.kind].name, c.n, c.v, err)
		}
		if want := append([]byte{0xaa}, c.want...); !bytes.Equal(w.Out(), want) {
			t.Errorf("%s(%d, %x): % x, not % x", kinds[c.kind].name, c.n, c.v, w.Out(), want)
		}
	}
}

// ends are the least and the greatest number of n bytes.
func ends(name string, n int) (int, int) {
	if name == "I" {
		return -1 << (8*n - 1), 1<<(8*n-1) - 1
	}
	return 0, 1<<(8*n) - 1
}

func TestWriteEndsOfTheRange(t *testing.T) { // P2.2, P2.4
	for _, k := range kinds {
		for n := 1; n <= 6; n++ {
			least, greatest := ends(k.name, n)
			for _, v := range []int{least, least + 1, greatest - 1, greatest} {
				w := NewWriter()
				if err := k.write(w, n, v); err != nil || len(w.Out()) != n {
					t.Errorf("%s(%d, %d): % x, %v", k.name, n, v, w.Out(), err)
				}
				if back, err := k.read(NewReader(w.Out()), n); back != v || err != nil {
					t.Errorf("%s(%d, %d) back: %d, %v", k.name, n, v, back, err)
				}
			}
		}
	}
}

// wantRefused checks that a number is refused, and that nothing of it is written.
func wantRefused(t *testing.T, kind, n, v int) {
	t.Helper()
	w := NewWriter()
	w.Bytes([]byte{5, 6, 7})
	wantFail(t, kinds[kind].name, kinds[kind].write(w, n, v), 3, api.ErrRange)
	if err := w.U(1, 8); err != nil || !bytes.Equal(w.Out(), []byte{5, 6, 7, 8}) {
		t.Errorf("%s(%d, %d): then % x, %v", kinds[kind].name, n, v, w.Out(), err)
	}
}

func TestWriteBeyondTheRange(t *testing.T) { // P2.2: nothing is written
	for i, k := range kinds {
		for n := 1; n <= 6; n++ {
			least, greatest := ends(k.name, n)
			for _, v := range []int{least - 1, greatest + 1, math.MinInt, math.MaxInt} {
				wantRefused(t, i, n, v)
			}
		}
	}
}

func TestWriteNumberOfWrongWidth(t *testing.T) { // P2.2
	for i := range kinds {
		for _, n := range wrongWidths {
			for _, v := range []int{0, 1, -1, math.MinInt, math.MaxInt} {
				wantRefused(t, i, n, v)
			}
		}
	}
}

func TestWriteErrorTellsTheOffset(t *testing.T) { // P2.2
	w := NewWriter()
	wantFail(t, "at the beginning", w.I(1, 128), 0, api.ErrRange)
	if err := w.B(6, 1); err != nil {
		t.Fatal(err)
	}
	wantFail(t, "behind a number", w.U(7, 0), 6, api.ErrRange)
	w.Bytes([]byte{1, 2})
	wantFail(t, "behind bytes", w.B(1, -1), 8, api.ErrRange)
}

func TestWriteBytes(t *testing.T) { // P2.2
	w := NewWriter()
	w.Bytes(nil)
	w.Bytes([]byte{})
	if b := w.Out(); len(b) != 0 {
		t.Errorf("nothing: % x", b)
	}
	w.Bytes([]byte{1, 2, 3})
	w.Bytes(nil)
	w.Bytes([]byte{4})
	if b := w.Out(); !bytes.Equal(b, []byte{1, 2, 3, 4}) {
		t.Errorf("% x", b)
	}
	if b := w.Out(); !bytes.Equal(b, []byte{1, 2, 3, 4}) {
		t.Errorf("a second time: % x", b)
	}
}

func TestReaderDoesNotKeepItsArgument(t *testing.T) { // P2.3
	memory := []byte{1, 2, 3, 4, 5, 6, 7, 8}
	given := memory[:6]
	r := NewReader(given)
	for i := range memory {
		memory[i] = 0xee
	}
	u, _ := r.U(2)
	b, _ := r.B(2)
	rest, _ := r.Bytes(2)
	if u != 0x0201 || b != 0x0304 || !bytes.Equal(rest, []byte{5, 6}) {
		t.Errorf("%x, %x, % x", u, b, rest)
	}
	wantFail(t, "beyond the length", errOf(r.U(1)), 6, api.ErrShort)
}

func errOf(_ int, err error) error { return err }

func TestReaderDoesNotChangeItsArgument(t *testing.T) { // P2.3
	memory := []byte{1, 2, 3, 4, 5, 6, 7, 8}
	r := NewReader(memory[:6])
	out, _ := r.Bytes(4)
	spoil(out)
	out, _ = r.Bytes(2)
	spoil(out)
	if !bytes.Equal(memory, []byte{1, 2, 3, 4, 5, 6, 7, 8}) {
		t.Errorf("% x", memory)
	}
}

// spoil writes over a slice and over its spare capacity.
func spoil(b []byte) {
	b = b[:cap(b)]
	for i := range b {
		b[i] = 0xee
	}
}

func TestReadBytesAreNew(t *testing.T) { // P2.3
	r := NewReader([]byte{1, 2, 3, 4, 5, 6})
	none, _ := r.Bytes(0)
	spoil(none)
	first, _ := r.Bytes(2)
	spoil(none)
	spoil(first)
	second, _ := r.Bytes(2)
	spoil(first)
	spoil(none)
	if !bytes.Equal(second, []byte{3, 4}) {
		t.Errorf("the second bytes: % x", second)
	}
	spoil(second)
	if v, err := r.B(2); v != 0x0506 || err != nil {
		t.Errorf("the number behind: %x, %v", v, err)
	}
}

func TestReadersOfOneSliceAreApart(t *testing.T) { // P2.3, P0.5
	b := []byte{1, 2}
	one, two := NewReader(b), NewReader(b)
	if _, err := one.U(2); err != nil {
		t.Fatal(err)
	}
	wantAt(t, "the other", two, 0, 2)
}

func TestWriterNeitherKeepsNorChangesItsArgument(t *testing.T) { // P2.3
	memory := []byte{1, 2, 3, 4}
	w := NewWriter()
	w.Bytes(memory[:2])
	if err := w.U(1, 9); err != nil {
		t.Fatal(err)
	}
	spoil(w.Out())
	if !bytes.Equal(memory, []byte{1, 2, 3, 4}) {
		t.Errorf("the argument: % x", memory)
	}
	spoil(memory)
	if b := w.Out(); !bytes.Equal(b, []byte{1, 2, 9}) {
		t.Errorf("written: % x", b)
	}
}

func TestOutIsNew(t *testing.T) { // P2.3
	w := NewWriter()
	var want []byte
	for i := range 100 {
		if err := w.U(1, i); err != nil {
			t.Fatal(err)
		}
		want = append(want, byte(i))
		early, late := w.Out(), w.Out()
		spoil(early)
		if !bytes.Equal(late, want) || !bytes.Equal(w.Out(), want) {
			t.Fatalf("after %d bytes: % x", i+1, late)
		}
	}
}

func TestOutStaysWhenTheWriterGoesOn(t *testing.T) { // P2.3
	w := NewWriter()
	w.Bytes([]byte{1, 2, 3})
	early := w.Out()
	w.Bytes([]byte{4, 5})
	_ = append(early, 9, 9)
	if !bytes.Equal(early, []byte{1, 2, 3}) || !bytes.Equal(w.Out(), []byte{1, 2, 3, 4, 5}) {
		t.Errorf("% x, % x", early, w.Out())
	}
}

// field is one call to write, and to read back.
type field struct {
	kind, n, v int
	bytes      []byte
}

// bytesField is the kind of a field that is a byte string.
const bytesField = 3

func (f field) write(w *Writer) error {
	if f.kind == bytesField {
		w.Bytes(f.bytes)
		return nil
	}
	return kinds[f.kind].write(w, f.n, f.v)
}

func (f field) read(r *Reader) (field, error) {
	back := field{kind: f.kind, n: f.n}
	var err error
	if f.kind == bytesField {
		back.bytes, err = r.Bytes(f.n)
		return back, err
	}
	back.v, err = kinds[f.kind].read(r, f.n)
	return back, err
}

// manyFields has every kind and width, with numbers from all over the range.
func manyFields() []field {
	var fields []field
	for n := 1; n <= 6; n++ {
		for i, k := range kinds {
			least, greatest := ends(k.name, n)
			for _, v := range []int{least, greatest, least/2 + greatest/3, 1, 0} {
				fields = append(fields, field{kind: i, n: n, v: v})
			}
		}
		fields = append(fields, field{kind: bytesField, n: n, bytes: bytes.Repeat([]byte{byte(n)}, n)})
		fields = append(fields, field{kind: bytesField})
	}
	return fields
}

func writeAll(t *testing.T, fields []field) []byte {
	t.Helper()
	w := NewWriter()
	for _, f := range fields {
		if err := f.write(w); err != nil {
			t.Fatalf("%+v: %v", f, err)
		}
	}
	return w.Out()
}

func TestFieldsAreReadBack(t *testing.T) { // P2.4
	fields := manyFields()
	r := NewReader(writeAll(t, fields))
	for _, f := range fields {
		back, err := f.read(r)
		if err != nil || back.v != f.v || !bytes.Equal(back.bytes, f.bytes) {
			t.Errorf("%+v back: %+v, %v", f, back, err)
		}
	}
	if err := r.Done(); err != nil {
		t.Errorf("Done: %v", err)
	}
}

func TestTruncatedFieldsAreShort(t *testing.T) { // P2.4
	fields := manyFields()
	b := writeAll(t, fields)
	for cut := range b {
		r := NewReader(b[:cut])
		var err error
		for _, f := range fields {
			if _, err = f.read(r); err != nil {
				break
			}
		}
		if !fail.Is(err, api.ErrShort) {
			t.Fatalf("cut at %d: %v", cut, err)
		}
	}
}

func TestExamplesOfTheChapter(t *testing.T) { // P2.1, P2.2
	if v, err := NewReader([]byte{0x34, 0x12}).U(2); v != 0x1234 || err != nil {
		t.Errorf("U(2): %x, %v", v, err)
	}
	if v, err := NewReader([]byte{0x34, 0x12}).B(2); v != 0x3412 || err != nil {
		t.Errorf("B(2): %x, %v", v, err)
	}
	if v, err := NewReader([]byte{0xff}).I(1); v != -1 || err != nil {
		t.Errorf("I(1): %d, %v", v, err)
	}
	if text := fail.Text(errOf(NewReader([]byte{1}).U(2))); text != "wire 0: "+api.ErrShort.Error() {
		t.Errorf("U(2) of one byte: %s", text)
	}
	wantFail(t, "U(7)", errOf(NewReader(make([]byte, 9)).U(7)), 0, api.ErrRange)
	wantFail(t, "I(1, 128)", NewWriter().I(1, 128), 0, api.ErrRange)
}
