package outside

import (
	"bytes"
	"math"
	"slices"
	"testing"

	"switchyard/pdu"
	"switchyard/rtu"
)

func TestExample(t *testing.T) { // P11.2
	s := New(1)
	set(t, s, 3, 0, 7)
	b, ok := s.Take(fromHex(t, "01 03 00 00 00 01 84 0A"))
	if !ok || !bytes.Equal(b, fromHex(t, "01 03 02 00 07 F9 86")) {
		t.Errorf("P11.2: % x, %t", b, ok)
	}
	if _, data, err := rtu.Open(b); !bytes.Equal(data, fromHex(t, "03 02 00 07")) || err != nil {
		t.Errorf("P11.2: % x, %v", data, err)
	}
	wantSilence(t, "a wrong checksum", s, fromHex(t, "01 03 00 00 00 01 84 0B"))
	wantSilence(t, "a wrong checksum", s, fromHex(t, "01 03 00 00 00 01 0A 84"))
}

// wantUntouched asks that a worn slave is as it was.
func wantUntouched(t *testing.T, what string, s *Slave, list []pdu.Request) {
	t.Helper()
	wantOnly(t, what, s, wornNumbers())
	wantWrites(t, what, s, list...)
}

func TestFramesThatAreNone(t *testing.T) { // P11.2
	s, list := worn(t)
	for _, b := range [][]byte{nil, {}, {9}, {9, 6}, {9, 6, 0}, make([]byte, 4), make([]byte, 8), make([]byte, 256), make([]byte, 300)} {
		wantSilence(t, "bytes that are no frame", s, b)
	}
	write := framed(9, fromHex(t, "06 00 00 11 22")...)
	for n := range write {
		wantSilence(t, "a frame that is cut off", s, write[:n])
		wantSilence(t, "a frame without its beginning", s, write[n+1:])
	}
	for bit := range 8 * len(write) {
		b := slices.Clone(write)
		b[bit/8] ^= 1 << (bit % 8)
		wantSilence(t, "a frame with a bit inverted", s, b)
	}
	// With a 0 behind it, a frame is another one with the right checksum.
	wantSilence(t, "a frame with a byte more", s, append(slices.Clone(write), 1))
	wantSilence(t, "two frames at once", s, slices.Concat(write, write))
	wantUntouched(t, "P11.2: frames that are none", s, list)
}

func TestFrameThatIsTooLong(t *testing.T) { // P11.2
	s, list := worn(t)
	for _, size := range []int{254, 255, 300, 1000} {
		wantSilence(t, "a frame that is too long", s, framed(9, append(fromHex(t, "06 00 00 11 22"), make([]byte, size-5)...)...))
	}
	wantUntouched(t, "P11.2: frames that are too long", s, list)
	// One of 256 bytes is a frame: it has to be refused by its data.
	data := append(fromHex(t, "06 00 00 11 22"), make([]byte, 253-5)...)
	wantAnswer(t, s, 9, data, fromHex(t, "86 03"))
	wantUntouched(t, "P11.2: a frame with data that are too long", s, list)
}

func TestFrameWithoutData(t *testing.T) { // P11.2
	for address := range 256 {
		wantSilence(t, "no data", New(address), framed(byte(address)))
	}
}

func TestEachAddress(t *testing.T) { // P11.2
	for own := range 256 {
		s := New(own)
		for address := range 256 {
			data := []byte{6, 0, byte(address), 0, 1}
			if address != own {
				wantSilence(t, "another address", s, framed(byte(address), data...))
				continue
			}
			wantAnswer(t, s, address, data, data)
		}
		wantWrites(t, "one address of all", s, pdu.Request{Func: 6, Start: own, Count: 1, Values: []int{1}})
		for at := range 256 {
			if s.Get(3, at) != 0 != (at == own) {
				t.Fatalf("P11.2: Get(3, %d) of the slave %d is %d", at, own, s.Get(3, at))
			}
		}
	}
}

func TestAddressesOfNoFrame(t *testing.T) { // P0.1, P11.2
	for _, own := range []int{-1, -255, -256, 256, 257, 511, 512, 65537, 1 << 32, 1<<32 + 1, math.MinInt, math.MinInt + 1, math.MaxInt} {
		s := New(own)
		for address := range 256 {
			wantSilence(t, "an address of no frame", s, framed(byte(address), 6, 0, 0, 0, 1))
			wantSilence(t, "an address of no frame", s, framed(byte(address), 99))
		}
		if s.Get(3, 0) != 0 || len(s.Writes()) > 0 {
			t.Errorf("P11.2: New(%d) performs writes", own)
		}
		set(t, s, 3, 0, 5)
		if s.Get(3, 0) != 5 || s.Copy().Get(3, 0) != 5 {
			t.Errorf("P11.1: New(%d) does not keep its numbers", own)
		}
	}
}

func TestBytesThatAreNoFunction(t *testing.T) { // P11.2
	s, list := worn(t)
	for first := range 256 {
		if slices.Contains(functions, first) {
			continue
		}
		want := []byte{byte(first % 128), 1}
		want[0] += 128
		for _, rest := range []string{"", "00", "00 00 00 01", "00 00 FF 00", "00 00 00 01 02 00 01", "FF FF FF FF"} {
			wantAnswer(t, s, 9, append([]byte{byte(first)}, fromHex(t, rest)...), want)
		}
	}
	wantUntouched(t, "P11.2: no function", s, list)
}

func TestExceptionsWrittenOut(t *testing.T) { // P11.2
	s := New(1)
	for _, c := range [][2]string{
		{"00", "80 01"}, {"07", "87 01"}, {"08 00 00 00 00", "88 01"}, {"0E", "8E 01"}, {"11", "91 01"}, {"16 00 00 00 01", "96 01"},
		{"7F", "FF 01"}, {"80", "80 01"}, {"81 00 00 00 01", "81 01"}, {"83 02", "83 01"}, {"8F", "8F 01"}, {"90", "90 01"}, {"FF", "FF 01"},
		{"01", "81 03"}, {"02", "82 03"}, {"03", "83 03"}, {"04", "84 03"}, {"05", "85 03"}, {"06", "86 03"}, {"0F", "8F 03"}, {"10", "90 03"},
	} {
		wantAnswer(t, s, 1, fromHex(t, c[0]), fromHex(t, c[1]))
	}
	wantOnly(t, "P11.2: exceptions", s, nil)
}

// badDataOf are data of the function that are the encoding of no valid request.
func badDataOf(t *testing.T, function int) [][]byte {
	t.Helper()
	texts := map[int][]string{
		1:  {"00 00 00 00", "00 00 07 D1", "F8 31 07 D0", "FF FF 00 02", "00 00 FF FF"},
		2:  {"00 00 00 00", "00 00 07 D1", "F8 31 07 D0", "FF FF 00 02", "00 00 FF FF"},
		3:  {"00 00 00 00", "00 00 00 7E", "FF 84 00 7D", "FF FF 00 02", "00 00 07 D0"},
		4:  {"00 00 00 00", "00 00 00 7E", "FF 84 00 7D", "FF FF 00 02", "00 00 07 D0"},
		5:  {"00 00 00 01", "00 00 01 00", "00 00 FF 01", "00 00 FF FF", "00 00 FE 00"},
		6:  {"00 00 00", "00 00 00 01 00"},
		15: {"00 00 00 00 00", "00 00 00 01 00", "00 00 00 01 01 02", "00 00 00 01 02 01 00", "00 00 00 09 01 01", "FF FF 00 02 01 03", "00 00 00 08 01 01 01", "00 00 07 B1 F7"},
		16: {"00 00 00 00 00", "00 00 00 01 02 00", "00 00 00 01 01 00", "00 00 00 01 04 00 01", "00 00 00 02 02 00 01", "FF FF 00 02 04 00 01 00 02", "00 00 00 01 02 00 01 00", "00 00 00 7C F8 00 01"},
	}[function]
	list := [][]byte{{byte(function)}}
	for _, text := range texts {
		list = append(list, append([]byte{byte(function)}, fromHex(t, text)...))
	}
	for _, rest := range []string{"00", "00 00", "00 00 00", "00 00 00 01 00 00", "00 00 FF 00 00"} {
		list = append(list, append([]byte{byte(function)}, fromHex(t, rest)...))
	}
	if function == 15 {
		// No frame has room for one register more than there may be, but one has for a bit more.
		list = append(list, writing(pdu.Request{Func: function, Count: 1969, Values: ramp(1969, 1)}))
	}
	return list
}

func TestDataThatAreNoRequest(t *testing.T) { // P11.2
	s, list := worn(t)
	for _, function := range functions {
		for _, data := range badDataOf(t, function) {
			wantAnswer(t, s, 9, data, []byte{byte(function) + 128, 3})
		}
	}
	wantUntouched(t, "P11.2: data that are no request", s, list)
}

func TestReadsWrittenOut(t *testing.T) { // P11.2
	s := New(1)
	for table := 1; table <= 4; table++ {
		for i, v := range []int{1, 0, 1, 1, 0, 0, 1, 1, 1, 0, 1} {
			if table > 2 {
				v = 256*table + 16*i + v
			}
			set(t, s, table, i, v)
		}
		set(t, s, table, 65535, 1)
	}
	set(t, s, 2, 0, 0)
	for _, c := range [][2]string{
		{"01 00 00 00 0A", "01 02 CD 01"}, {"02 00 00 00 0A", "02 02 CC 01"},
		{"01 00 00 00 01", "01 01 01"}, {"02 00 00 00 01", "02 01 00"}, {"01 00 02 00 08", "01 01 73"}, {"01 00 02 00 09", "01 02 73 01"},
		{"01 FF FF 00 01", "01 01 01"}, {"02 FF FF 00 01", "02 01 01"}, {"02 FF FE 00 02", "02 01 02"},
		{"03 00 00 00 03", "03 06 03 01 03 10 03 21"}, {"04 00 00 00 03", "04 06 04 01 04 10 04 21"},
		{"03 00 01 00 01", "03 02 03 10"}, {"04 00 0A 00 02", "04 04 04 A1 00 00"},
		{"03 FF FF 00 01", "03 02 00 01"}, {"04 FF FE 00 02", "04 04 00 00 00 01"},
	} {
		wantAnswer(t, s, 1, fromHex(t, c[0]), fromHex(t, c[1]))
	}
}

// wantRead asks a filled slave.
func wantRead(t *testing.T, s *Slave, function, start, count int) {
	t.Helper()
	values := make([]int, count)
	for i := range values {
		values[i] = fillOf(function, start+i)
	}
	wantAnswer(t, s, 5, reading(function, start, count), append([]byte{byte(function)}, inBytes(function < 3, values)...))
}

func TestReadsOfAllLengths(t *testing.T) { // P11.2, P11.4
	s := filled(t, 5)
	for function := 1; function <= 4; function++ {
		most := map[bool]int{true: 2000, false: 125}[function < 3]
		for count := 1; count <= most; count++ {
			wantRead(t, s, function, 65536-count, count)
			wantRead(t, s, function, count*29, count)
		}
		for _, count := range []int{1, 2, 8, 9, most - 1, most} {
			for _, start := range []int{0, 1, 255, 256, 32767, 65536 - count - 1, 65536 - count} {
				wantRead(t, s, function, start, count)
			}
		}
	}
	// A read changes nothing and is no write.
	wantAll(t, "P11.4: reads", s, fillOf)
	wantWrites(t, "reads", s)
}

func TestReadsOfANewSlave(t *testing.T) { // P11.1, P11.2, P11.4
	s := New(5)
	for function := 1; function <= 4; function++ {
		for range 2 {
			wantAnswer(t, s, 5, reading(function, 0, 1), append([]byte{byte(function)}, inBytes(function < 3, []int{0})...))
			wantAnswer(t, s, 5, reading(function, 65411, 125), append([]byte{byte(function)}, inBytes(function < 3, make([]int, 125))...))
		}
	}
	wantOnly(t, "P11.4: reads", s, nil)
	wantWrites(t, "reads", s)
}

func TestWritesWrittenOut(t *testing.T) { // P11.2
	s := New(1)
	for i, c := range []struct {
		data, answer string
		write        pdu.Request
		named        map[[2]int]int
	}{
		{"05 00 AC FF 00", "05 00 AC FF 00", pdu.Request{Func: 5, Start: 172, Count: 1, Values: []int{1}}, map[[2]int]int{{1, 172}: 1}},
		{"05 00 AC 00 00", "05 00 AC 00 00", pdu.Request{Func: 5, Start: 172, Count: 1, Values: []int{0}}, nil},
		{"05 FF FF FF 00", "05 FF FF FF 00", pdu.Request{Func: 5, Start: 65535, Count: 1, Values: []int{1}}, map[[2]int]int{{1, 65535}: 1}},
		{"06 00 00 12 34", "06 00 00 12 34", pdu.Request{Func: 6, Start: 0, Count: 1, Values: []int{0x1234}}, map[[2]int]int{{1, 65535}: 1, {3, 0}: 0x1234}},
		{"06 FF FF FF FF", "06 FF FF FF FF", pdu.Request{Func: 6, Start: 65535, Count: 1, Values: []int{65535}}, map[[2]int]int{{1, 65535}: 1, {3, 0}: 0x1234, {3, 65535}: 65535}},
		{"0F FF FE 00 02 01 01", "0F FF FE 00 02", pdu.Request{Func: 15, Start: 65534, Count: 2, Values: []int{1, 0}}, map[[2]int]int{{1, 65534}: 1, {3, 0}: 0x1234, {3, 65535}: 65535}},
		{"10 FF FE 00 02 04 00 00 00 05", "10 FF FE 00 02", pdu.Request{Func: 16, Start: 65534, Count: 2, Values: []int{0, 5}}, map[[2]int]int{{1, 65534}: 1, {3, 0}: 0x1234, {3, 65535}: 5}},
		{"10 00 00 00 01 02 00 00", "10 00 00 00 01", pdu.Request{Func: 16, Start: 0, Count: 1, Values: []int{0}}, map[[2]int]int{{1, 65534}: 1, {3, 65535}: 5}},
		{"0F 00 13 00 0A 02 CD 01", "0F 00 13 00 0A", pdu.Request{Func: 15, Start: 19, Count: 10, Values: []int{1, 0, 1, 1, 0, 0, 1, 1, 1, 0}}, map[[2]int]int{
			{1, 65534}: 1, {3, 65535}: 5, {1, 19}: 1, {1, 21}: 1, {1, 22}: 1, {1, 25}: 1, {1, 26}: 1, {1, 27}: 1}},
	} {
		before := s.Writes()
		if len(before) != i {
			t.Fatalf("P11.2: %d Writes ahead of the write %d", len(before), i)
		}
		wantAnswer(t, s, 1, fromHex(t, c.data), fromHex(t, c.answer))
		wantWrites(t, c.data, s, append(before, c.write)...)
		wantOnly(t, "P11.2: "+c.data, s, c.named)
	}
}

// someWrites has writes of each function, of one value and of as many as there may be, from the first place and to the last.
func someWrites() []pdu.Request {
	var list []pdu.Request
	for _, at := range []int{0, 1, 300, 65534, 65535} {
		for _, v := range []int{1, 0} {
			list = append(list, pdu.Request{Func: 5, Start: at, Count: 1, Values: []int{v}})
		}
		for _, v := range []int{1, 255, 256, 65535, 0, 0x8001} {
			list = append(list, pdu.Request{Func: 6, Start: at, Count: 1, Values: []int{v}})
		}
	}
	for _, count := range []int{1, 2, 7, 8, 9, 16, 17, 123, 1967, 1968} {
		for _, start := range []int{0, 500, 65536 - count} {
			list = append(list, pdu.Request{Func: 15, Start: start, Count: count, Values: ramp(count, 1)})
			if count <= 123 {
				list = append(list, pdu.Request{Func: 16, Start: start, Count: count, Values: ramp(count, 65535)})
			}
		}
	}
	return list
}

// tableOf is the table that a write of the function stores in.
func tableOf(function int) int { return map[int]int{5: 1, 15: 1, 6: 3, 16: 3}[function] }

func TestWritesStoreTheirValuesOnly(t *testing.T) { // P11.2
	for _, r := range someWrites() {
		s, named := New(7), map[[2]int]int{}
		for i, v := range r.Values {
			named[[2]int{tableOf(r.Func), r.Start + i}] = v
		}
		data := writing(r)
		wantAnswer(t, s, 7, data, data[:5])
		wantOnly(t, "P11.2: a write", s, named)
		wantWrites(t, "one write", s, r)
		for _, read := range []int{1, 2, 3, 4} {
			count := min(r.Count, 125)
			values := make([]int, count)
			if read == tableOf(r.Func) {
				copy(values, r.Values)
			}
			wantAnswer(t, s, 7, reading(read, r.Start, count), append([]byte{byte(read)}, inBytes(read < 3, values)...))
		}
	}
}

func TestWritesOverWhatStandsThere(t *testing.T) { // P11.2, P11.4
	s := filled(t, 7)
	want := map[[2]int]int{}
	for _, r := range someWrites() {
		data := writing(r)
		wantAnswer(t, s, 7, data, data[:5])
		for i, v := range r.Values {
			want[[2]int{tableOf(r.Func), r.Start + i}] = v
		}
	}
	wantAll(t, "P11.2: writes over numbers", s, func(table, at int) int {
		if v, ok := want[[2]int{table, at}]; ok {
			return v
		}
		return fillOf(table, at)
	})
}

func TestWritesInOrder(t *testing.T) { // P11.2
	s, list := New(7), someWrites()
	wantWrites(t, "none", s)
	for i, r := range list {
		s.Take(framed(7, writing(r)...))
		wantWrites(t, "several", s, list[:i+1]...)
	}
	// The same ones again, among frames that are no writes.
	for _, r := range list {
		wantSilence(t, "another address", s, framed(8, writing(r)...))
		s.Take(framed(7, reading(3, r.Start, 1)...))
		s.Take(framed(7, writing(r)...))
		s.Take(framed(7, append(writing(r), 0)...))
		wantSilence(t, "cut off", s, framed(7, writing(r)...)[1:])
		set(t, s, 3, r.Start, 4)
		s.Get(3, r.Start)
	}
	wantWrites(t, "twice", s, append(list, list...)...)
}

func TestArgumentsAreTheCallers(t *testing.T) { // P11.3
	for _, r := range someWrites() {
		s := New(7)
		frame := framed(7, writing(r)...)
		b := append(slices.Clone(frame), 0xEE, 0xEE)
		answer, _ := s.Take(b[:len(frame)])
		if !bytes.Equal(b[:len(frame)], frame) || b[len(frame)] != 0xEE || b[len(frame)+1] != 0xEE {
			t.Fatalf("P11.3: Take changes its argument to % x", b)
		}
		kept := slices.Clone(answer)
		for i := range b {
			b[i] ^= 0xFF
		}
		if !bytes.Equal(answer, kept) {
			t.Fatalf("P11.3: the answer changes with the argument")
		}
		wantWrites(t, "P11.3: the argument was written into", s, r)
		for i, v := range r.Values {
			if got := s.Get(tableOf(r.Func), r.Start+i); got != v {
				t.Fatalf("P11.3: Get is %d, not %d, behind the argument was written into", got, v)
			}
		}
	}
}

func TestAnswersAreTheCallers(t *testing.T) { // P0.4, P11.3
	s := filled(t, 7)
	for _, data := range [][]byte{reading(3, 0, 125), reading(1, 0, 2000), {6, 0, 0, 1, 2}, {16, 0, 0, 0, 1, 2, 3, 4}, {99}, {5, 0, 0, 0, 1}} {
		frame := framed(7, data...)
		first, _ := s.Take(frame)
		second, _ := s.Take(frame)
		kept := slices.Clone(second)
		first = first[:cap(first)]
		for i := range first {
			first[i] ^= 0xFF
		}
		if !bytes.Equal(second, kept) || !bytes.Equal(frame, framed(7, data...)) {
			t.Fatalf("P11.3: what is written into the answer to % x is seen elsewhere", data)
		}
		if third, ok := s.Take(frame); !ok || !bytes.Equal(third, kept) {
			t.Fatalf("P11.3: the answer to % x changes with the one before", data)
		}
	}
}

func TestListsOfWritesAreTheCallers(t *testing.T) { // P0.4, P11.3
	s, list := worn(t)
	o := s.Copy()
	for range 3 {
		first, second := s.Writes(), s.Writes()
		for i, r := range first {
			values := r.Values[:cap(r.Values)]
			for j := range values {
				values[j] = -9
			}
			first[i] = pdu.Request{Func: 99, Values: []int{1}}
		}
		for range cap(first) - len(first) + 1 {
			first = append(first, pdu.Request{Func: 98})
		}
		if !slices.EqualFunc(second, list, pdu.Same) {
			t.Fatalf("P11.3: what is written into one list is seen in the other: %+v", second)
		}
		wantUntouched(t, "P11.3: a list that was written into", s, list)
		wantUntouched(t, "P11.3: a list that was written into", o, list)
	}
	// Nor do the values of one write stand behind those of another.
	for i, r := range s.Writes() {
		got := s.Writes()
		got[i].Values = append(got[i].Values, 7, 7, 7)
		for j, each := range got {
			if j != i && !pdu.Same(each, list[j]) {
				t.Fatalf("P11.3: what is appended to %+v is seen in %+v", r, each)
			}
		}
	}
}
