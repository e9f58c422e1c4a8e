package pdu

import (
	"bytes"
	"encoding/hex"
	"errors"
	"math/rand"
	"slices"
	"strings"
	"testing"

	"switchyard/api"
	"switchyard/fail"
)

// functions are the eight function codes.
var functions = []int{1, 2, 3, 4, 5, 6, 15, 16}

// row is a row of the chapter's table of valid requests, for one function code.
type row struct{ most, top, perValue int }

// rows follows the table; perValue is how many Values a request has for each of Count.
func rows() map[int]row {
	return map[int]row{
		1: {2000, 1, 0}, 2: {2000, 1, 0},
		3: {125, 65535, 0}, 4: {125, 65535, 0},
		5: {1, 1, 1}, 6: {1, 65535, 1},
		15: {1968, 1, 1}, 16: {123, 65535, 1},
	}
}

// isValid follows the table, case by case.
func isValid(r Request) bool {
	f, ok := rows()[r.Func]
	if !ok || r.Count < 1 || r.Count > f.most || r.Start < 0 || r.Start > 65536-r.Count || len(r.Values) != r.Count*f.perValue {
		return false
	}
	return inBounds(r.Values, f.top)
}

func inBounds(values []int, top int) bool {
	return !slices.ContainsFunc(values, func(v int) bool { return v < 0 || v > top })
}

func word(v int) []byte { return []byte{byte(v / 256), byte(v % 256)} }

// sized is the number of bytes, and the values packed or as words, by sums of powers of two.
func sized(bits bool, values []int) []byte {
	var data []byte
	if bits {
		for from := 0; from < len(values); from += 8 {
			sum := 0
			for i, v := range values[from:min(from+8, len(values))] {
				sum += v * []int{1, 2, 4, 8, 16, 32, 64, 128}[i]
			}
			data = append(data, byte(sum))
		}
	} else {
		for _, v := range values {
			data = append(data, word(v)...)
		}
	}
	return append([]byte{byte(len(data))}, data...)
}

// encodingOf follows the words of Encode for a valid request.
func encodingOf(r Request) []byte {
	b := append([]byte{byte(r.Func)}, word(r.Start)...)
	switch {
	case r.Func <= 4:
		return append(b, word(r.Count)...)
	case r.Func == 5 && r.Values[0] == 1:
		return append(b, 0xFF, 0x00)
	case r.Func == 5:
		return append(b, 0x00, 0x00)
	case r.Func == 6:
		return append(b, word(r.Values[0])...)
	}
	return append(append(b, word(r.Count)...), sized(r.Func == 15, r.Values)...)
}

// isReply follows the words of Answer for a valid request.
func isReply(r Request, p Reply) bool {
	switch {
	case p.Code < 0 || p.Code > 255:
		return false
	case p.Code != 0 || r.Func > 4:
		return len(p.Values) == 0
	}
	return len(p.Values) == r.Count && inBounds(p.Values, rows()[r.Func].top)
}

// answerOf follows the words of Answer for a valid request and a reply to it.
func answerOf(r Request, p Reply) []byte {
	switch {
	case p.Code != 0:
		return []byte{byte(r.Func + 128), byte(p.Code)}
	case r.Func <= 4:
		return append([]byte{byte(r.Func)}, sized(r.Func <= 2, p.Values)...)
	case r.Func <= 6:
		return encodingOf(r)
	}
	return append(append([]byte{byte(r.Func)}, word(r.Start)...), word(r.Count)...)
}

func fromHex(t *testing.T, text string) []byte {
	t.Helper()
	b, err := hex.DecodeString(strings.ReplaceAll(text, " ", ""))
	if err != nil {
		t.Fatal(err)
	}
	return b
}

// ramp are values that differ from their neighbours, as far as top lets them.
func ramp(count, top int) []int {
	values := make([]int, count)
	for i := range values {
		values[i] = (i*i*257 + i*3 + 1) % (top + 1)
	}
	return values
}

// filled is a request with as many Values as it must have.
func filled(function, start, count int) Request {
	r := Request{Func: function, Start: start, Count: count}
	if f := rows()[function]; f.perValue > 0 {
		r.Values = ramp(count, f.top)
	}
	return r
}

// full is the reply with as many Values as r asks for.
func full(r Request) Reply {
	if r.Func > 4 {
		return Reply{}
	}
	return Reply{Values: ramp(r.Count, rows()[r.Func].top)}
}

// someRequests has, for each function code, the least request, the greatest one, and some between them.
func someRequests() []Request {
	var list []Request
	for _, function := range functions {
		most := rows()[function].most
		for _, count := range []int{1, 2, 7, 8, 9, 10, 15, 16, 17, 123, most - 1, most} {
			if count < 1 || count > most {
				continue
			}
			for _, start := range []int{0, 255, 256, 0x1234, 65536 - count} {
				list = append(list, filled(function, start, count))
			}
		}
	}
	return list
}

func randomValues(random *rand.Rand, count, top int) []int {
	values := make([]int, count)
	for i := range values {
		values[i] = random.Intn(top + 1)
	}
	return values
}

func randomRequest(random *rand.Rand) Request {
	r := Request{Func: functions[random.Intn(len(functions))]}
	f := rows()[r.Func]
	r.Count = 1 + random.Intn(f.most)
	r.Start = random.Intn(65536 - r.Count + 1)
	r.Values = randomValues(random, r.Count*f.perValue, f.top)
	return r
}

func randomReply(random *rand.Rand, r Request) Reply {
	if random.Intn(4) == 0 {
		return Reply{Code: 1 + random.Intn(255)}
	}
	if r.Func > 4 {
		return Reply{}
	}
	return Reply{Values: randomValues(random, r.Count, rows()[r.Func].top)}
}

// equalRequests stands in for Same, which is itself under test.
func equalRequests(a, b Request) bool {
	return a.Func == b.Func && a.Start == b.Start && a.Count == b.Count && slices.Equal(a.Values, b.Values)
}

func equalReplies(a, b Reply) bool { return a.Code == b.Code && slices.Equal(a.Values, b.Values) }

// wantError asks for one step of the path, and for the code by way of errors.Is and errors.As.
func wantError(t *testing.T, what string, err error, place int, code api.Code) {
	t.Helper()
	var outermost *fail.Fail
	if !errors.Is(err, code) || !errors.As(err, &outermost) {
		t.Errorf("%s: %v, not pdu %d: %v", what, err, place, code)
		return
	}
	if *outermost != (fail.Fail{Where: "pdu", Place: place, Err: code}) {
		t.Errorf("%s: %v, not pdu %d: %v", what, err, place, code)
	}
}

// wantNotEncoded asks also for no bytes beside the error.
func wantNotEncoded(t *testing.T, r Request, code api.Code) {
	t.Helper()
	b, err := Encode(r)
	wantError(t, "P7.1: Encode", err, r.Func, code)
	if len(b) > 0 {
		t.Errorf("P0.3: Encode(%+v) gives % x beside an error", r, b)
	}
}

func wantNotDecoded(t *testing.T, b []byte, place int, code api.Code) {
	t.Helper()
	r, err := Decode(b)
	wantError(t, "P7.1: Decode of "+hex.EncodeToString(b), err, place, code)
	if !equalRequests(r, Request{}) {
		t.Errorf("P0.3: Decode(% x) gives %+v beside an error", b, r)
	}
}

func wantNotAnswered(t *testing.T, r Request, p Reply) {
	t.Helper()
	b, err := Answer(r, p)
	wantError(t, "P7.2: Answer", err, r.Func, api.ErrRange)
	if len(b) > 0 {
		t.Errorf("P0.3: Answer(%+v, %+v) gives % x beside an error", r, p, b)
	}
}

func wantNotRead(t *testing.T, r Request, b []byte, place int, code api.Code) {
	t.Helper()
	p, err := Read(r, b)
	wantError(t, "P7.2: Read of "+hex.EncodeToString(b), err, place, code)
	if !equalReplies(p, Reply{}) {
		t.Errorf("P0.3: Read(%+v, % x) gives %+v beside an error", r, b, p)
	}
}

// wantRequest asks that b and r are each other's.
func wantRequest(t *testing.T, r Request, b []byte) {
	t.Helper()
	if !May(r) {
		t.Errorf("P7.1: May(%+v) is false", r)
	}
	if got, err := Encode(r); err != nil || !bytes.Equal(got, b) {
		t.Errorf("P7.1: Encode(%+v) is % x, %v, not % x", r, got, err, b)
	}
	if got, err := Decode(b); err != nil || !equalRequests(got, r) {
		t.Errorf("P7.1: Decode(% x) is %+v, %v, not %+v", b, got, err, r)
	}
}

// wantReply asks that b and p are each other's for the request r.
func wantReply(t *testing.T, r Request, p Reply, b []byte) {
	t.Helper()
	if got, err := Answer(r, p); err != nil || !bytes.Equal(got, b) {
		t.Errorf("P7.2: Answer(%+v, %+v) is % x, %v, not % x", r, p, got, err, b)
	}
	if got, err := Read(r, b); err != nil || !equalReplies(got, p) {
		t.Errorf("P7.2: Read(%+v, % x) is %+v, %v, not %+v", r, b, got, err, p)
	}
}
