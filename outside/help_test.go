package outside

import (
	"bytes"
	"encoding/hex"
	"math"
	"slices"
	"strings"
	"testing"

	"switchyard/crc"
	"switchyard/pdu"
	"switchyard/rtu"
)

// functions are the eight function codes.
var functions = []int{1, 2, 3, 4, 5, 6, 15, 16}

// noTables are numbers of no table; some of them are one in their lowest bytes.
var noTables = []int{0, 5, 6, 15, 16, 255, 256, 257, 260, 65536, 65537, 65539, 1 << 32, 1<<32 + 1, 1<<32 + 4, -1, -2, -3, -4, -255, -65533, -1<<32 + 3, math.MinInt, math.MinInt + 1, math.MaxInt - 1, math.MaxInt}

// noPlaces are positions of no table; some of them are one in their lowest bytes.
var noPlaces = []int{-1, 65536, -2, -9, -65535, -65536, 65537, 65545, 131072, 1 << 32, 1<<32 + 9, -1<<32 + 9, math.MinInt, math.MinInt + 9, math.MaxInt - 1, math.MaxInt}

// somePlaces are positions of each table.
var somePlaces = []int{0, 1, 9, 255, 256, 32767, 32768, 65534, 65535}

// someNumbers are about the bounds of what the tables may contain, and far from them.
var someNumbers = []int{-1, 0, 1, 2, 3, 127, 128, 255, 256, 257, 32767, 32768, 65534, 65535, 65536, 65537, 131071, -2, -65535, -65536, 1 << 32, 1<<32 + 1, -1<<32 + 1, math.MinInt, math.MinInt + 1, math.MaxInt - 1, math.MaxInt}

// tops are the greatest numbers of the tables 1 to 4.
func tops() map[int]int { return map[int]int{1: 1, 2: 1, 3: 65535, 4: 65535} }

func fromHex(t *testing.T, text string) []byte {
	t.Helper()
	b, err := hex.DecodeString(strings.ReplaceAll(text, " ", ""))
	if err != nil {
		t.Fatal(err)
	}
	return b
}

// framed is a frame with the right checksum, also where rtu.Frame refuses to make one.
func framed(address byte, data ...byte) []byte {
	b := append([]byte{address}, data...)
	sum := crc.Modbus(b)
	return append(b, byte(sum), byte(sum>>8))
}

func word(v int) []byte { return []byte{byte(v >> 8), byte(v)} }

// reading is the data of a read.
func reading(function, start, count int) []byte {
	return slices.Concat([]byte{byte(function)}, word(start), word(count))
}

// ramp are values that differ from their neighbours, as far as top lets them.
func ramp(count, top int) []int {
	values := make([]int, count)
	for i := range values {
		values[i] = (i*i*257 + i*3 + 1) % (top + 1)
	}
	return values
}

// inBytes is the number of bytes that the values take, and these bytes: packed bits or words.
func inBytes(bits bool, values []int) []byte {
	var data []byte
	for i, v := range values {
		switch {
		case !bits:
			data = append(data, word(v)...)
		case i%8 == 0:
			data = append(data, byte(v))
		default:
			data[i/8] += byte(v << (i % 8))
		}
	}
	return append([]byte{byte(len(data))}, data...)
}

// writing is the data of a write.
func writing(r pdu.Request) []byte {
	b := append([]byte{byte(r.Func)}, word(r.Start)...)
	switch r.Func {
	case 5:
		return append(b, byte(255*r.Values[0]), 0)
	case 6:
		return append(b, word(r.Values[0])...)
	}
	return slices.Concat(b, word(r.Count), inBytes(r.Func == 15, r.Values))
}

// set is Set, which has to succeed.
func set(t *testing.T, s *Slave, table, at, v int) {
	t.Helper()
	if !s.Set(table, at, v) {
		t.Fatalf("P11.1: Set(%d, %d, %d) is false", table, at, v)
	}
}

// filled is a slave in whose tables each number is that of fillOf.
func filled(t *testing.T, address int) *Slave {
	t.Helper()
	s := New(address)
	for table := 1; table <= 4; table++ {
		for at := range 65536 {
			set(t, s, table, at, fillOf(table, at))
		}
	}
	return s
}

func fillOf(table, at int) int {
	switch table {
	case 1, 2:
		return (at*at/3 + table) & 1
	}
	return (at*31 + table*7) & 65535
}

// wantAll asks for each number of each table.
func wantAll(t *testing.T, what string, s *Slave, want func(table, at int) int) {
	t.Helper()
	for table := 1; table <= 4; table++ {
		for at := range 65536 {
			if v := s.Get(table, at); v != want(table, at) {
				t.Fatalf("%s: Get(%d, %d) is %d, not %d", what, table, at, v, want(table, at))
			}
		}
	}
}

// wantOnly asks that the numbers are those named, and 0 everywhere else.
func wantOnly(t *testing.T, what string, s *Slave, named map[[2]int]int) {
	t.Helper()
	wantAll(t, what, s, func(table, at int) int { return named[[2]int{table, at}] })
}

// wantAnswer asks for the frame of these data, with the address.
func wantAnswer(t *testing.T, s *Slave, address int, data, want []byte) {
	t.Helper()
	b, ok := s.Take(framed(byte(address), data...))
	if !ok || !bytes.Equal(b, framed(byte(address), want...)) {
		t.Fatalf("P11.2: Take of % x is % x, %t, not % x", data, b, ok, want)
	}
	if a, answered, err := rtu.Open(b); a != address || !bytes.Equal(answered, want) || err != nil {
		t.Fatalf("P11.2: the answer to % x is %d, % x, %v", data, a, answered, err)
	}
}

// wantSilence asks for no answer.
func wantSilence(t *testing.T, what string, s *Slave, b []byte) {
	t.Helper()
	if answer, ok := s.Take(b); ok || len(answer) > 0 {
		t.Fatalf("P11.2: %s: Take of % x is % x, %t", what, b, answer, ok)
	}
}

func wantWrites(t *testing.T, what string, s *Slave, want ...pdu.Request) {
	t.Helper()
	if got := s.Writes(); !slices.EqualFunc(got, want, pdu.Same) {
		t.Fatalf("P11.2: %s: Writes are %+v, not %+v", what, got, want)
	}
}
