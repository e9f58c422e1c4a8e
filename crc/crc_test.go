package crc

import (
	"bytes"
	"math"
	"slices"
	"testing"
)

// polys are polynomials of 16 bits, of more, and negative ones.
var polys = []int{
	0xA001, 0xA6BC, 0, 1, 0x8000, 0x8408, 0xFFFF,
	0x10000, 0x5A001, 0x7FFF_A6BC, math.MaxInt,
	-1, -0x5FFF, -0x10000, math.MinInt, math.MinInt + 3,
}

// sums are checksums of 16 bits, of more, and negative ones.
var sums = []int{
	0, 1, 0x80, 0xFF, 0x100, 0x1234, 0x7FFF, 0x8000, 0x8765, 0xFFFF,
	0x10000, 0x1FFFF, 0x7FFF_0001, math.MaxInt,
	-1, -2, -0x8000, -0x10000, math.MinInt, math.MinInt + 0x1234,
}

// checksums are the two checksums of byte strings, by name, and how the chapter makes them.
var checksums = []struct {
	name              string
	of                func([]byte) int
	poly, first, last int
}{
	{"Modbus", Modbus, 0xA001, 0xFFFF, 0},
	{"Dnp", Dnp, 0xA6BC, 0, 0xFFFF},
}

// low16 is n mod 2^16, also of a negative n, by arithmetic instead of a conversion.
func low16(n int) int {
	return ((n % 65536) + 65536) % 65536
}

// byTheWords follows the words of P3.1, bit by bit.
func byTheWords(poly, sum int, b byte) int {
	v := low16(sum) ^ int(b)
	for range 8 {
		odd := v%2 == 1
		v /= 2
		if odd {
			v ^= low16(poly)
		}
	}
	return v
}

// samples are byte strings of every length up to 64, and some with plain contents.
func samples() [][]byte {
	list := [][]byte{{0}, {255}, []byte("123456789"), make([]byte, 30), bytes.Repeat([]byte{255}, 30)}
	x := uint32(1)
	for size := range 65 {
		b := make([]byte, size)
		for i := range b {
			x = x*1664525 + 1013904223
			b[i] = byte(x >> 24)
		}
		list = append(list, b)
	}
	return list
}

func TestStepOfEveryByte(t *testing.T) { // P3.1
	for _, poly := range polys {
		for _, sum := range sums {
			for b := range 256 {
				if got, want := Step(poly, sum, byte(b)), byTheWords(poly, sum, byte(b)); got != want {
					t.Fatalf("Step(%x, %x, %x): %x, not %x", poly, sum, b, got, want)
				}
			}
		}
	}
}

func TestStepOfEverySum(t *testing.T) { // P3.1
	for _, poly := range []int{0xA001, 0xA6BC, 0x8408} {
		for sum := range 0x10000 {
			b := byte(sum >> 3)
			if got, want := Step(poly, sum, b), byTheWords(poly, sum, b); got != want {
				t.Fatalf("Step(%x, %x, %x): %x, not %x", poly, sum, b, got, want)
			}
		}
	}
}

func TestStepTakesTheLow16Bits(t *testing.T) { // P3.1
	for _, poly := range polys {
		for _, sum := range sums {
			got, want := Step(poly, sum, 0x5B), Step(poly&0xFFFF, sum&0xFFFF, 0x5B)
			if got != want || got < 0 || got > 0xFFFF {
				t.Errorf("Step(%x, %x, 5b): %x, not %x", poly, sum, got, want)
			}
		}
	}
}

func TestStepByHand(t *testing.T) { // P3.1
	for _, c := range []struct {
		poly, sum int
		b         byte
		want      int
	}{
		{0xA001, 0, 0, 0},
		{0xA001, 0, 1, 0xC0C1},       // the example of the chapter
		{0xA001, 0, 0x80, 0xA001},    // only the last of the eight bits is 1
		{0x5A001, 0, 0x80, 0xA001},   // a polynomial of more than 16 bits
		{-0x5FFF, 0, 0x80, 0xA001},   // a negative one
		{0, 0xAB00, 0, 0xAB},         // no polynomial: the sum is shifted only
		{0, 0xABCD, 0xFF, 0xAB},      // and the byte goes out with the low bits
		{0, 0x1_AB00, 0, 0xAB},       // a sum of more than 16 bits
		{0, -1, 0, 0xFF},             // a negative one
		{0xA001, 0x1234, 0x34, 0x12}, // sum XOR byte has no low bits
	} {
		if got := Step(c.poly, c.sum, c.b); got != c.want {
			t.Errorf("Step(%x, %x, %x): %x, not %x", c.poly, c.sum, c.b, got, c.want)
		}
	}
}

func TestTableHasAStepInEachRow(t *testing.T) { // P3.1
	for _, poly := range polys {
		table := Table(poly)
		if len(table) != 256 {
			t.Fatalf("Table(%x): %d rows", poly, len(table))
		}
		for i, got := range table {
			if want := byTheWords(poly, 0, byte(i)); got != want || got != Step(poly, 0, byte(i)) {
				t.Fatalf("Table(%x), row %d: %x, not %x", poly, i, got, want)
			}
		}
	}
}

func TestTablesAsPublished(t *testing.T) { // P3.1
	for _, c := range []struct {
		poly        int
		first, last []int
	}{
		{0xA001, []int{0, 0xC0C1, 0xC181, 0x0140, 0xC301, 0x03C0, 0x0280, 0xC241}, []int{0x8201, 0x42C0, 0x4380, 0x8341, 0x4100, 0x81C1, 0x8081, 0x4040}},
		{0xA6BC, []int{0, 0x365E, 0x6CBC, 0x5AE2, 0xD978, 0xEF26, 0xB5C4, 0x839A}, []int{0x91AF, 0xA7F1, 0xFD13, 0xCB4D, 0x48D7, 0x7E89, 0x246B, 0x1235}},
	} {
		table := Table(c.poly)
		if len(table) != 256 || !slices.Equal(table[:8], c.first) || !slices.Equal(table[248:], c.last) {
			t.Errorf("Table(%x): %x", c.poly, table)
		}
	}
}

func TestExamplesOfTheChapter(t *testing.T) { // P3.1, P3.2
	digits := []byte("123456789")
	if got := Modbus(digits); got != 0x4B37 {
		t.Errorf("Modbus: %x", got)
	}
	if got := Dnp(digits); got != 0xEA82 {
		t.Errorf("Dnp: %x", got)
	}
	for _, none := range [][]byte{nil, {}} {
		if m, d := Modbus(none), Dnp(none); m != 0xFFFF || d != 0xFFFF {
			t.Errorf("of no bytes: %x, %x", m, d)
		}
	}
	if got := Step(0xA001, 0, 1); got != 0xC0C1 {
		t.Errorf("Step(A001, 0, 1): %x", got)
	}
}

func TestChecksumsOfFrames(t *testing.T) { // P3.2
	for _, c := range []struct {
		of   func([]byte) int
		b    []byte
		want int
	}{
		{Modbus, []byte{0x01, 0x03, 0x00, 0x00, 0x00, 0x0A}, 0xCDC5},
		{Modbus, []byte{0x11, 0x03, 0x00, 0x6B, 0x00, 0x03}, 0x8776},
		{Dnp, []byte{0x05, 0x64, 0x05, 0xC0, 0x01, 0x00, 0x00, 0x04}, 0x21E9},
	} {
		if got := c.of(c.b); got != c.want {
			t.Errorf("% x: %x, not %x", c.b, got, c.want)
		}
	}
}

func TestChecksumsAreStepsForEachByte(t *testing.T) { // P3.2
	list := samples()
	for b := range 256 {
		list = append(list, []byte{byte(b)})
	}
	for _, c := range checksums {
		for _, b := range list {
			want := c.first
			for _, x := range b {
				want = byTheWords(c.poly, want, x)
			}
			want ^= c.last
			if got := c.of(b); got != want {
				t.Fatalf("%s of % x: %x, not %x", c.name, b, got, want)
			}
		}
	}
}

func TestChecksumOfALongString(t *testing.T) { // P3.2
	long := bytes.Repeat([]byte("123456789"), 10000)
	for _, c := range checksums {
		want := c.first
		for _, x := range long {
			want = byTheWords(c.poly, want, x)
		}
		if got := c.of(long); got != want^c.last {
			t.Errorf("%s: %x, not %x", c.name, got, want^c.last)
		}
	}
}

func TestArgumentsAreNotChanged(t *testing.T) { // P3.3
	for _, c := range checksums {
		memory := []byte("123456789 and what stands behind it")
		before := bytes.Clone(memory)
		c.of(memory[:9])
		if !bytes.Equal(memory, before) {
			t.Errorf("%s: %q", c.name, memory)
		}
	}
}

func TestMemoryBeyondTheLengthDoesNotCount(t *testing.T) { // P3.3
	for _, c := range checksums {
		memory := []byte("123456789abc")
		want := c.of([]byte("123456789"))
		if got := c.of(memory[:9]); got != want {
			t.Errorf("%s: %x, not %x", c.name, got, want)
		}
		if got := c.of(memory[9:9]); got != 0xFFFF {
			t.Errorf("%s of no bytes: %x", c.name, got)
		}
	}
}

func TestArgumentsAreNotKept(t *testing.T) { // P3.3
	for _, c := range checksums {
		want, other := c.of([]byte("123456789")), c.of([]byte("987654321"))
		memory := []byte("123456789")
		c.of(memory)
		copy(memory, "987654321")
		if got := c.of(memory); got != other {
			t.Errorf("%s of the changed bytes: %x, not %x", c.name, got, other)
		}
		if got := c.of([]byte("123456789")); got != want {
			t.Errorf("%s of the bytes as before: %x, not %x", c.name, got, want)
		}
	}
}

// spoil writes over a table and over its spare capacity.
func spoil(table []int) {
	table = table[:cap(table)]
	for i := range table {
		table[i] = -7
	}
}

func TestTablesAreNotShared(t *testing.T) { // P3.3
	for _, poly := range polys {
		want := slices.Clone(Table(poly))
		early, late := Table(poly), Table(poly)
		spoil(early)
		_ = append(early, 1, 2, 3)
		if !slices.Equal(late, want) || !slices.Equal(Table(poly), want) {
			t.Errorf("Table(%x): a spoilt table shows in another one", poly)
		}
		spoil(late)
		if got := Step(poly, 0, 0x2B); got != want[0x2B] {
			t.Errorf("Step(%x, 0, 2b) beside a spoilt table: %x, not %x", poly, got, want[0x2B])
		}
	}
	if m, d := Modbus([]byte("123456789")), Dnp([]byte("123456789")); m != 0x4B37 || d != 0xEA82 {
		t.Errorf("beside spoilt tables: %x, %x", m, d)
	}
}

func TestStepByTheTable(t *testing.T) { // P3.4
	for _, poly := range polys {
		table := Table(poly)
		for _, sum := range sums {
			for b := range 256 {
				want := table[(low16(sum)^b)%256] ^ low16(sum)/256
				if got := Step(poly, sum, byte(b)); got != want {
					t.Fatalf("Step(%x, %x, %x): %x, not %x", poly, sum, b, got, want)
				}
			}
		}
	}
}

func TestOneInvertedBitChangesTheChecksum(t *testing.T) { // P3.4
	for _, c := range checksums {
		for _, b := range samples() {
			want := c.of(b)
			for bit := range 8 * len(b) {
				b[bit/8] ^= 1 << (bit % 8)
				if c.of(b) == want {
					t.Fatalf("%s of % x: %x without the inverted bit %d, too", c.name, b, want, bit)
				}
				b[bit/8] ^= 1 << (bit % 8)
			}
		}
	}
}

func TestModbusBehindItsChecksumIsZero(t *testing.T) { // P3.4
	for _, b := range samples() {
		sum := Modbus(b)
		if got := Modbus(append(bytes.Clone(b), byte(sum), byte(sum>>8))); got != 0 {
			t.Errorf("% x, then %x: %x", b, sum, got)
		}
	}
}
