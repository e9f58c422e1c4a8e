package pdu

import (
	"bytes"
	"math"
	"math/rand"
	"slices"
	"testing"

	"switchyard/api"
)

// numbers are those at and around the bounds of the chapter, and the greatest and least ones.
var numbers = []int{math.MinInt, math.MinInt + 1, -65536, -2000, -1, 0, 1, 2, 122, 123, 124, 125, 126, 1967, 1968, 1969, 1999, 2000, 2001,
	65535, 65536, 65537, 1 << 32, 1<<32 + 1, math.MaxInt - 1, math.MaxInt}

// wantJudged asks May and Encode for what the table says of r.
func wantJudged(t *testing.T, r Request) {
	t.Helper()
	if isValid(r) {
		wantRequest(t, r, encodingOf(r))
		return
	}
	if May(r) {
		t.Errorf("P7.1: May(%+v) is true", r)
	}
	wantNotEncoded(t, r, api.ErrRange)
}

func TestExamplesOfRequests(t *testing.T) { // P7.1
	wantRequest(t, Request{Func: 3, Start: 107, Count: 3}, fromHex(t, "03 00 6B 00 03"))
	wantRequest(t, Request{Func: 15, Start: 19, Count: 10, Values: []int{1, 0, 1, 1, 0, 0, 1, 1, 1, 0}}, fromHex(t, "0F 00 13 00 0A 02 CD 01"))
}

func TestRequestsWrittenOut(t *testing.T) { // P7.1
	for _, c := range []struct {
		r    Request
		text string
	}{
		{Request{Func: 1, Start: 0x1234, Count: 0x07CF}, "01 12 34 07 CF"},
		{Request{Func: 1, Start: 65535, Count: 1}, "01 FF FF 00 01"},
		{Request{Func: 2, Start: 63536, Count: 2000}, "02 F8 30 07 D0"},
		{Request{Func: 3, Start: 0, Count: 1}, "03 00 00 00 01"},
		{Request{Func: 3, Start: 65411, Count: 125}, "03 FF 83 00 7D"},
		{Request{Func: 4, Start: 256, Count: 2}, "04 01 00 00 02"},
		{Request{Func: 5, Start: 172, Count: 1, Values: []int{1}}, "05 00 AC FF 00"},
		{Request{Func: 5, Start: 65535, Count: 1, Values: []int{0}}, "05 FF FF 00 00"},
		{Request{Func: 6, Start: 1, Count: 1, Values: []int{0x1234}}, "06 00 01 12 34"},
		{Request{Func: 6, Start: 65535, Count: 1, Values: []int{65535}}, "06 FF FF FF FF"},
		{Request{Func: 6, Start: 0, Count: 1, Values: []int{0}}, "06 00 00 00 00"},
		{Request{Func: 15, Start: 65535, Count: 1, Values: []int{1}}, "0F FF FF 00 01 01 01"},
		{Request{Func: 15, Start: 2, Count: 8, Values: []int{0, 0, 0, 0, 0, 0, 0, 1}}, "0F 00 02 00 08 01 80"},
		{Request{Func: 15, Start: 2, Count: 9, Values: []int{1, 0, 0, 0, 0, 0, 0, 0, 1}}, "0F 00 02 00 09 02 01 01"},
		{Request{Func: 16, Start: 1, Count: 2, Values: []int{10, 0x0102}}, "10 00 01 00 02 04 00 0A 01 02"},
		{Request{Func: 16, Start: 65535, Count: 1, Values: []int{65535}}, "10 FF FF 00 01 02 FF FF"},
	} {
		wantRequest(t, c.r, fromHex(t, c.text))
	}
}

func TestRequestsFollowTheWords(t *testing.T) { // P7.1, P7.5
	for _, r := range someRequests() {
		if !isValid(r) {
			t.Fatalf("%+v is not valid", r)
		}
		wantRequest(t, r, encodingOf(r))
	}
	random := rand.New(rand.NewSource(71))
	for range 3000 {
		r := randomRequest(random)
		wantRequest(t, r, encodingOf(r))
	}
}

func TestLongestRequests(t *testing.T) { // P7.1
	for _, c := range []struct{ function, count, length, size int }{{15, 1968, 252, 246}, {16, 123, 252, 246}, {15, 1961, 252, 246}, {15, 1960, 251, 245}} {
		b, err := Encode(filled(c.function, 5, c.count))
		if err != nil || len(b) != c.length || int(b[5]) != c.size {
			t.Errorf("P7.1: function %d: %d bytes, %v", c.function, len(b), err)
		}
	}
}

func TestNumbersThatAreNoFunction(t *testing.T) { // P7.1
	others := []int{math.MinInt, math.MinInt + 3, -65533, -253, 256, 257, 259, 65539, 1<<32 + 3, math.MaxInt}
	for function := -20; function < 300; function++ {
		others = append(others, function)
	}
	for _, function := range others {
		if slices.Contains(functions, function) {
			continue
		}
		for _, r := range []Request{{Func: function}, {Func: function, Count: 1}, {Func: function, Count: 1, Values: []int{1}}, {Func: function, Start: -1, Count: -1}} {
			if May(r) {
				t.Errorf("P7.1: May(%+v) is true", r)
			}
			// Such a request is not valid either: the function counts first.
			wantNotEncoded(t, r, api.ErrKind)
		}
	}
}

func TestBoundsOfCountAndStart(t *testing.T) { // P7.1
	for _, function := range functions {
		for _, count := range numbers {
			for _, start := range numbers {
				wantJudged(t, Request{Func: function, Start: start, Count: count})
				wantJudged(t, Request{Func: function, Start: start, Count: count, Values: []int{1}})
				if count >= 0 && count <= 2001 {
					wantJudged(t, Request{Func: function, Start: start, Count: count, Values: ramp(count, 1)})
				}
			}
			if count > 0 && count <= 2001 {
				for beyond := -1; beyond <= 1; beyond++ {
					wantJudged(t, filled(function, 65536-count+beyond, count))
				}
			}
		}
	}
}

func TestNumberOfValues(t *testing.T) { // P7.1
	for _, function := range functions {
		most := rows()[function].most
		for _, count := range []int{1, 2, 3, 8, most - 1, most, most + 1} {
			for _, have := range []int{0, 1, 2, max(count-1, 0), count, count + 1, most, most + 1} {
				wantJudged(t, Request{Func: function, Start: 3, Count: count, Values: make([]int, have)})
			}
		}
	}
}

func TestBoundsOfValues(t *testing.T) { // P7.1
	for _, function := range functions {
		for _, count := range []int{1, 2, 9} {
			for place := range count {
				for _, v := range numbers {
					values := make([]int, count)
					values[place] = v
					wantJudged(t, Request{Func: function, Start: 3, Count: count, Values: values})
				}
			}
		}
	}
}

func TestNoValuesAreNilOrEmpty(t *testing.T) { // P0.4, P7.1
	for function := 1; function <= 4; function++ {
		r := Request{Func: function, Count: 1, Values: []int{}}
		wantRequest(t, r, encodingOf(r))
	}
	wantJudged(t, Request{Func: 5, Count: 1, Values: []int{}})
	wantJudged(t, Request{Func: 16, Values: []int{}})
}

func TestDecodeOfNothing(t *testing.T) { // P7.1
	wantNotDecoded(t, nil, 0, api.ErrShort)
	wantNotDecoded(t, []byte{}, 0, api.ErrShort)
	wantNotDecoded(t, []byte{3, 0, 0, 0, 1}[:0], 0, api.ErrShort)
}

func TestDecodeOfEveryFirstByte(t *testing.T) { // P7.1
	for first := range 256 {
		code := api.ErrKind
		if slices.Contains(functions, first) {
			code = api.ErrForm
		}
		// Alone, the byte is too short as well for a request: the function counts first.
		wantNotDecoded(t, []byte{byte(first)}, first, code)
		if code == api.ErrKind {
			wantNotDecoded(t, []byte{byte(first), 0, 0, 0, 1}, first, code)
			wantNotDecoded(t, []byte{byte(first), 0, 0, 0, 1, 1, 1}, first, code)
		}
	}
}

func TestDecodeOfBytesCutOffOrTooMany(t *testing.T) { // P7.1
	for _, r := range someRequests() {
		b := encodingOf(r)
		for n := 1; n < len(b); n++ {
			wantNotDecoded(t, b[:n], r.Func, api.ErrForm)
			wantNotDecoded(t, slices.Clone(b[:n]), r.Func, api.ErrForm)
		}
		for _, more := range [][]byte{{0}, {1}, {255}, {0, 0}, b, make([]byte, 300)} {
			wantNotDecoded(t, append(slices.Clone(b), more...), r.Func, api.ErrForm)
		}
	}
}

func TestDecodeOfWrongForms(t *testing.T) { // P7.1
	for _, text := range []string{
		"01 00 00 00 00", "01 00 00 07 D1", "01 00 00 FF FF", "01 F8 31 07 D0", "02 FF FF 00 02", "02 00 00 00 00",
		"03 00 00 00 00", "03 00 00 00 7E", "03 FF 84 00 7D", "04 FF FF 00 02", "04 00 00 01 01",
		"05 00 00 00 01", "05 00 00 01 00", "05 00 00 FE 00", "05 00 00 FF 01", "05 00 00 FF FF", "05 00 00 FE FF",
		"0F 00 00 00 00 00", "0F 00 00 00 00 01 00", "0F 00 00 00 01 00", "0F 00 00 00 01 02 01 00", "0F 00 00 00 01 00 01",
		"0F 00 00 00 01 01 02", "0F 00 00 00 01 01 81", "0F 00 00 00 03 01 08", "0F 00 00 00 07 01 80", "0F 00 00 00 09 01 01",
		"0F 00 00 00 09 02 01 02", "0F 00 00 00 08 02 01 00", "0F FF FF 00 02 01 01", "0F 00 00 FF FF 01 01", "0F 00 00 FF FF FF",
		"10 00 00 00 00 00", "10 00 00 00 01 01 00", "10 00 00 00 01 03 00 00 00", "10 00 00 00 01 02 00", "10 00 00 00 02 02 00 00",
		"10 00 00 00 01 04 00 00 00 00", "10 FF FF 00 02 04 00 00 00 00", "10 00 00 FF FF 00", "10 00 00 00 01 00 00 00", "10 00 00 01 01 02 00 00",
	} {
		b := fromHex(t, text)
		wantNotDecoded(t, b, int(b[0]), api.ErrForm)
	}
}

func TestDecodeOfTooManyValues(t *testing.T) { // P7.1
	bits := Request{Func: 15, Count: 1969, Values: ramp(1969, 1)}
	wantNotDecoded(t, encodingOf(bits), 15, api.ErrForm)
	words := Request{Func: 16, Count: 124, Values: ramp(124, 65535)}
	wantNotDecoded(t, encodingOf(words), 16, api.ErrForm)
	// Their numbers of bytes are beyond one byte, in which they wrap round to small ones.
	bits = Request{Func: 15, Count: 2056, Values: ramp(2056, 1)}
	wantNotDecoded(t, encodingOf(bits), 15, api.ErrForm)
	words = Request{Func: 16, Count: 129, Values: ramp(129, 65535)}
	wantNotDecoded(t, encodingOf(words), 16, api.ErrForm)
}

// wantDecodedByTheWords asks that b is refused, or that it is the encoding of the valid request that it gives.
func wantDecodedByTheWords(t *testing.T, b []byte) bool {
	t.Helper()
	r, err := Decode(b)
	if err != nil {
		wantNotDecoded(t, b, int(b[0]), api.ErrForm)
		return false
	}
	if !isValid(r) || !bytes.Equal(encodingOf(r), b) {
		t.Errorf("P7.1: Decode(% x) is %+v", b, r)
	}
	return true
}

func TestDecodeOfEveryWordBehindStart(t *testing.T) { // P7.1
	for _, c := range []struct{ function, start, want int }{
		{1, 0, 2000}, {2, 65535, 1}, {3, 0, 125}, {4, 65500, 36}, {5, 65535, 2}, {6, 65535, 65536}, {15, 0, 0}, {16, 0, 0},
	} {
		accepted := 0
		for v := range 65536 {
			if wantDecodedByTheWords(t, slices.Concat([]byte{byte(c.function)}, word(c.start), word(v))) {
				accepted++
			}
		}
		if accepted != c.want {
			t.Errorf("P7.1: function %d, start %d: %d words are accepted, not %d", c.function, c.start, accepted, c.want)
		}
	}
}

func TestDecodeOfCountsAheadOfValues(t *testing.T) { // P7.1
	for _, c := range []struct{ function, size, want int }{{15, 1, 8}, {15, 2, 8}, {15, 246, 8}, {15, 247, 0}, {15, 255, 0}, {16, 1, 0}, {16, 2, 1}, {16, 246, 1}, {16, 248, 0}} {
		accepted := 0
		// Those far beyond the greatest Count are tried here and there only.
		for count := 0; count < 65536; count += 1 + count/2100*30 {
			b := slices.Concat([]byte{byte(c.function), 0, 0}, word(count), []byte{byte(c.size)}, make([]byte, c.size))
			if wantDecodedByTheWords(t, b) {
				accepted++
			}
		}
		if accepted != c.want {
			t.Errorf("P7.1: function %d, %d bytes: %d counts are accepted, not %d", c.function, c.size, accepted, c.want)
		}
	}
}

func TestDecodeOfEveryLastByteOfBits(t *testing.T) { // P7.1
	for count := 1; count <= 24; count++ {
		size := (count + 7) / 8
		accepted := 0
		for last := range 256 {
			b := slices.Concat([]byte{15, 0, 0, 0, byte(count), byte(size)}, bytes.Repeat([]byte{0xA5}, size-1), []byte{byte(last)})
			if wantDecodedByTheWords(t, b) {
				accepted++
			}
		}
		if want := 1 << ((count-1)%8 + 1); accepted != want {
			t.Errorf("P7.1: %d bits: %d last bytes are accepted, not %d", count, accepted, want)
		}
	}
}

func TestDecodeOfOneByteChanged(t *testing.T) { // P7.1
	for _, r := range someRequests() {
		b := encodingOf(r)
		if len(b) > 30 {
			continue
		}
		for place := 1; place < len(b); place++ {
			for v := range 256 {
				changed := slices.Clone(b)
				changed[place] = byte(v)
				wantDecodedByTheWords(t, changed)
			}
		}
	}
}

func TestSame(t *testing.T) { // P7.3
	for _, a := range []Request{
		{}, {Func: 3, Start: 107, Count: 3}, {Func: 16, Start: 1, Count: 3, Values: []int{4, 5, 6}},
		{Func: math.MinInt, Start: math.MaxInt, Count: -1, Values: []int{math.MinInt, math.MaxInt}}, filled(15, 0, 1968),
	} {
		same := a
		same.Values = slices.Clone(a.Values)
		if !Same(a, a) || !Same(a, same) || !Same(same, a) {
			t.Errorf("P7.3: %+v is not the same as itself", a)
		}
		for i, other := range othersOf(a) {
			if Same(a, other) || Same(other, a) || !Same(other, other) {
				t.Errorf("P7.3: %d: %+v and %+v", i, a, other)
			}
		}
	}
	if !Same(Request{Func: 1, Values: []int{}}, Request{Func: 1}) || !Same(Request{Func: 1}, Request{Func: 1, Values: []int{}}) {
		t.Error("P0.4: no values and empty values are not the same")
	}
	if Same(Request{Start: 1}, Request{Count: 1}) || Same(Request{Func: 1, Start: 2}, Request{Func: 2, Start: 1}) {
		t.Error("P7.3: the fields are mixed up")
	}
}

// othersOf are the requests that differ from a in one field, in one value, or in how many there are.
func othersOf(a Request) []Request {
	var list []Request
	for _, by := range []int{-1, 1, 256, 65536, 1 << 32} {
		list = append(list,
			Request{a.Func + by, a.Start, a.Count, a.Values}, Request{a.Func, a.Start + by, a.Count, a.Values}, Request{a.Func, a.Start, a.Count + by, a.Values})
		for place := range a.Values {
			values := slices.Clone(a.Values)
			values[place] += by
			list = append(list, Request{a.Func, a.Start, a.Count, values})
		}
	}
	list = append(list, Request{a.Func, a.Start, a.Count, append(slices.Clone(a.Values), 0)})
	if n := len(a.Values); n > 0 {
		list = append(list, Request{a.Func, a.Start, a.Count, a.Values[:n-1]}, Request{a.Func, a.Start, a.Count, a.Values[1:]}, Request{a.Func, a.Start, a.Count, nil})
	}
	return list
}

// roomy is a slice with spare capacity, and all of its memory.
func roomy[T any](list []T, spare T) (part, whole []T) {
	whole = append(slices.Clip(slices.Clone(list)), spare, spare, spare)
	return whole[:len(list)], whole
}

func TestRequestsKeepAndShareNothing(t *testing.T) { // P7.4
	for _, r := range someRequests() {
		values, whole := roomy(r.Values, 1)
		before := slices.Clone(whole)
		given := Request{r.Func, r.Start, r.Count, values}
		first, _ := Encode(given)
		if !May(given) || !Same(given, r) || !slices.Equal(whole, before) {
			t.Fatalf("P7.4: %+v: an argument was changed", r)
		}
		overwrite(whole)
		second, _ := Encode(r)
		if !bytes.Equal(first, encodingOf(r)) {
			t.Fatalf("P7.4: %+v: Encode keeps its argument", r)
		}
		overwrite(first[:cap(first)])
		if !bytes.Equal(second, encodingOf(r)) {
			t.Fatalf("P7.4: %+v: two results of Encode share memory", r)
		}
	}
}

func TestDecodedRequestsKeepAndShareNothing(t *testing.T) { // P7.4
	for _, r := range someRequests() {
		b, whole := roomy(encodingOf(r), 1)
		before := slices.Clone(whole)
		first, err := Decode(b)
		second, _ := Decode(b)
		if err != nil || !bytes.Equal(whole, before) {
			t.Fatalf("P7.4: Decode(% x) changed its argument", before)
		}
		overwrite(whole)
		if !equalRequests(first, r) {
			t.Fatalf("P7.4: Decode(% x) keeps its argument", before)
		}
		overwrite(first.Values[:cap(first.Values)])
		if !equalRequests(second, r) {
			t.Fatalf("P7.4: two results of Decode(% x) share memory", before)
		}
	}
}

func overwrite[T byte | int](list []T) {
	for i := range list {
		list[i] = 77
	}
}
