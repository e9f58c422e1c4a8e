package pdu

import (
	"bytes"
	"math"
	"math/rand"
	"slices"
	"testing"

	"switchyard/api"
)

// wantJudgedReply asks Answer for what the words say of p, where r is valid.
func wantJudgedReply(t *testing.T, r Request, p Reply) {
	t.Helper()
	if isReply(r, p) {
		wantReply(t, r, p, answerOf(r, p))
		return
	}
	wantNotAnswered(t, r, p)
}

// invalidRequests break one condition each, or have a number that is no function.
func invalidRequests() []Request {
	list := []Request{{}, {Func: -1, Count: 1}, {Func: 7, Count: 1}, {Func: 14, Count: 1}, {Func: 17, Count: 1}, {Func: 131, Count: 1}, {Func: 256 + 3, Count: 1}}
	for _, function := range functions {
		f := rows()[function]
		list = append(list,
			filled(function, 0, 0), filled(function, 0, f.most+1), filled(function, -1, 1), filled(function, 65536, 1),
			filled(function, 65537-f.most, f.most), Request{Func: function, Count: -1},
			Request{Func: function, Count: 1, Values: ramp(1-f.perValue, 1)}, Request{Func: function, Count: 1, Values: ramp(2, 1)})
		if f.perValue > 0 {
			list = append(list, Request{Func: function, Count: 1, Values: []int{f.top + 1}}, Request{Func: function, Count: 1, Values: []int{-1}})
		}
	}
	return list
}

func TestExamplesOfReplies(t *testing.T) { // P7.2
	r := Request{Func: 3, Start: 107, Count: 3}
	wantReply(t, r, Reply{Values: []int{555, 0, 65535}}, fromHex(t, "03 06 02 2B 00 00 FF FF"))
	wantReply(t, r, Reply{Code: 2}, fromHex(t, "83 02"))
}

func TestRepliesWrittenOut(t *testing.T) { // P7.2
	for _, c := range []struct {
		r    Request
		p    Reply
		text string
	}{
		{Request{Func: 1, Count: 10}, Reply{Values: []int{1, 0, 1, 1, 0, 0, 1, 1, 1, 0}}, "01 02 CD 01"},
		{Request{Func: 1, Count: 1}, Reply{Values: []int{0}}, "01 01 00"},
		{Request{Func: 2, Start: 9, Count: 8}, Reply{Values: []int{0, 0, 0, 0, 0, 0, 0, 1}}, "02 01 80"},
		{Request{Func: 2, Start: 9, Count: 9}, Reply{Values: []int{0, 0, 0, 0, 0, 0, 0, 0, 1}}, "02 02 00 01"},
		{Request{Func: 4, Start: 65535, Count: 1}, Reply{Values: []int{0x1234}}, "04 02 12 34"},
		{Request{Func: 5, Start: 1, Count: 1, Values: []int{1}}, Reply{}, "05 00 01 FF 00"},
		{Request{Func: 5, Start: 0x1234, Count: 1, Values: []int{0}}, Reply{}, "05 12 34 00 00"},
		{Request{Func: 6, Start: 1, Count: 1, Values: []int{3}}, Reply{}, "06 00 01 00 03"},
		{Request{Func: 15, Start: 0x1234, Count: 10, Values: make([]int, 10)}, Reply{}, "0F 12 34 00 0A"},
		{Request{Func: 16, Start: 1, Count: 2, Values: []int{1, 2}}, Reply{}, "10 00 01 00 02"},
		{Request{Func: 1, Count: 10}, Reply{Code: 1}, "81 01"},
		{Request{Func: 2, Count: 10}, Reply{Code: 11}, "82 0B"},
		{Request{Func: 4, Count: 10}, Reply{Code: 4}, "84 04"},
		{Request{Func: 5, Count: 1, Values: []int{1}}, Reply{Code: 3}, "85 03"},
		{Request{Func: 6, Count: 1, Values: []int{1}}, Reply{Code: 128}, "86 80"},
		{Request{Func: 15, Count: 1, Values: []int{1}}, Reply{Code: 254}, "8F FE"},
		{Request{Func: 16, Count: 1, Values: []int{1}}, Reply{Code: 255}, "90 FF"},
	} {
		wantReply(t, c.r, c.p, fromHex(t, c.text))
	}
}

func TestRepliesFollowTheWords(t *testing.T) { // P7.2, P7.5
	for _, r := range someRequests() {
		wantReply(t, r, full(r), answerOf(r, full(r)))
	}
	random := rand.New(rand.NewSource(72))
	for range 3000 {
		r := randomRequest(random)
		p := randomReply(random, r)
		wantReply(t, r, p, answerOf(r, p))
	}
}

func TestLongestReplies(t *testing.T) { // P7.2
	for _, c := range []struct{ function, size int }{{1, 250}, {2, 250}, {3, 250}, {4, 250}} {
		r := filled(c.function, 0, rows()[c.function].most)
		b, err := Answer(r, full(r))
		if err != nil || len(b) != c.size+2 || int(b[1]) != c.size {
			t.Errorf("P7.2: function %d: %d bytes, %v", c.function, len(b), err)
		}
	}
}

func TestExceptionCodes(t *testing.T) { // P7.2
	codes := []int{math.MinInt, -65536, -256, -255, -1, 257, 511, 512, 65536, 1 << 32, 1<<32 + 1, math.MaxInt}
	for code := range 257 {
		codes = append(codes, code)
	}
	for _, function := range functions {
		for _, count := range []int{1, rows()[function].most} {
			r := filled(function, 7, count)
			for _, code := range codes {
				wantJudgedReply(t, r, Reply{Code: code})
				wantJudgedReply(t, r, Reply{Code: code, Values: []int{}})
				wantJudgedReply(t, r, Reply{Code: code, Values: []int{1}})
				wantJudgedReply(t, r, Reply{Code: code, Values: ramp(count, 1)})
			}
		}
	}
}

func TestNumberOfValuesInReplies(t *testing.T) { // P7.2
	for _, r := range someRequests() {
		for _, have := range []int{0, 1, 2, r.Count - 1, r.Count, r.Count + 1, r.Count + 8} {
			wantJudgedReply(t, r, Reply{Values: make([]int, have)})
		}
	}
}

func TestBoundsOfValuesInReplies(t *testing.T) { // P7.2
	for function := 1; function <= 4; function++ {
		for _, count := range []int{1, 2, 9} {
			for place := range count {
				for _, v := range numbers {
					values := make([]int, count)
					values[place] = v
					wantJudgedReply(t, Request{Func: function, Count: count}, Reply{Values: values})
				}
			}
		}
	}
}

func TestRepliesToRequestsThatAreNotValid(t *testing.T) { // P7.2
	for _, r := range invalidRequests() {
		if isValid(r) || May(r) {
			t.Fatalf("P7.1: %+v is valid", r)
		}
		for _, p := range []Reply{{}, {Code: 1}, {Code: 256}, {Values: []int{1}}, {Values: ramp(max(r.Count, 0), 1)}} {
			wantNotAnswered(t, r, p)
		}
		// The request counts ahead of what is wrong with the bytes, and tells the place.
		for _, b := range [][]byte{nil, {}, {byte(r.Func)}, {byte(r.Func + 128), 1}, {byte(r.Func + 128), 0}, {99}, {byte(r.Func), 1, 1}, {byte(r.Func), 2, 0, 1}} {
			wantNotRead(t, r, b, r.Func, api.ErrRange)
		}
	}
}

func TestReadOfNothing(t *testing.T) { // P7.2
	for _, r := range someRequests() {
		wantNotRead(t, r, nil, 0, api.ErrShort)
		wantNotRead(t, r, []byte{}, 0, api.ErrShort)
		wantNotRead(t, r, answerOf(r, full(r))[:0], 0, api.ErrShort)
	}
}

func TestReadOfEveryFirstByte(t *testing.T) { // P7.2
	for _, function := range functions {
		r := filled(function, 1, 1)
		for first := range 256 {
			code := api.ErrKind
			if first == function || first == function+128 {
				code = api.ErrForm
			}
			wantNotRead(t, r, []byte{byte(first)}, first, code)
			if code == api.ErrKind {
				wantNotRead(t, r, []byte{byte(first), 1}, first, code)
				wantNotRead(t, r, append([]byte{byte(first)}, answerOf(r, full(r))[1:]...), first, code)
			}
		}
	}
}

func TestReadOfRepliesToAnotherFunction(t *testing.T) { // P7.2
	for _, function := range functions {
		for _, other := range functions {
			if other == function {
				continue
			}
			r, s := filled(function, 4, 1), filled(other, 4, 1)
			wantNotRead(t, r, answerOf(s, full(s)), other, api.ErrKind)
			wantNotRead(t, r, answerOf(s, Reply{Code: 1}), other+128, api.ErrKind)
		}
	}
}

func TestReadOfBytesCutOffOrTooMany(t *testing.T) { // P7.2
	for _, r := range someRequests() {
		for _, p := range []Reply{full(r), {Code: 1}, {Code: 255}} {
			b := answerOf(r, p)
			for n := 1; n < len(b); n++ {
				wantNotRead(t, r, b[:n], int(b[0]), api.ErrForm)
				wantNotRead(t, r, slices.Clone(b[:n]), int(b[0]), api.ErrForm)
			}
			for _, more := range [][]byte{{0}, {1}, {255}, {0, 0}, b, make([]byte, 300)} {
				wantNotRead(t, r, append(slices.Clone(b), more...), int(b[0]), api.ErrForm)
			}
		}
	}
}

func TestReadOfWrongForms(t *testing.T) { // P7.2
	for _, c := range []struct {
		r    Request
		text string
	}{
		{Request{Func: 3, Count: 3}, "83 00"}, {Request{Func: 3, Count: 3}, "83 01 00"}, {Request{Func: 3, Count: 3}, "83 00 01"},
		{Request{Func: 3, Count: 3}, "03 05 00 00 00 00 00"}, {Request{Func: 3, Count: 3}, "03 05 00 00 00 00 00 00"},
		{Request{Func: 3, Count: 3}, "03 06 00 00 00 00 00"}, {Request{Func: 3, Count: 3}, "03 04 00 00 00 00"},
		{Request{Func: 3, Count: 3}, "03 08 00 00 00 00 00 00 00 00"}, {Request{Func: 3, Count: 3}, "03 07 00 00 00 00 00 00 00"},
		{Request{Func: 3, Count: 3}, "03 00"}, {Request{Func: 3, Count: 3}, "03 06"}, {Request{Func: 3, Count: 3}, "03 FF 00 00 00 00 00 00"},
		{Request{Func: 1, Count: 10}, "01 02 CD 05"}, {Request{Func: 1, Count: 10}, "01 02 CD 81"}, {Request{Func: 1, Count: 10}, "01 01 CD"},
		{Request{Func: 1, Count: 10}, "01 03 CD 01 00"}, {Request{Func: 2, Count: 1}, "02 01 02"}, {Request{Func: 2, Count: 7}, "02 01 80"},
		{Request{Func: 2, Count: 8}, "02 02 80 00"}, {Request{Func: 1, Count: 10}, "81 00"},
		{filled(5, 1, 1), "05 00 01 00 00"}, {filled(5, 1, 1), "05 00 01 FF 01"}, {filled(5, 1, 1), "05 00 02 FF 00"}, {filled(5, 1, 1), "05 01 01 FF 00"},
		{filled(5, 1, 1), "85 00"}, {filled(6, 1, 1), "06 00 01 00 00"}, {filled(6, 1, 1), "06 00 00 00 01"}, {filled(6, 1, 1), "86 00"},
		{filled(15, 1, 9), "0F 00 01 00 08"}, {filled(15, 1, 9), "0F 00 00 00 09"}, {filled(15, 1, 9), "0F 00 01 01 09"}, {filled(15, 1, 9), "8F 00"},
		{filled(16, 1, 2), "10 00 01 00 01"}, {filled(16, 1, 2), "10 00 02 00 02"}, {filled(16, 1, 2), "10 00 01 00 02 04 00 01 01 05"}, {filled(16, 1, 2), "90 00"},
	} {
		b := fromHex(t, c.text)
		wantNotRead(t, c.r, b, int(b[0]), api.ErrForm)
	}
}

// wantReadByTheWords asks that b is refused, or that it is the answer of the reply that it gives.
func wantReadByTheWords(t *testing.T, r Request, b []byte) bool {
	t.Helper()
	p, err := Read(r, b)
	if err != nil {
		wantNotRead(t, r, b, int(b[0]), api.ErrForm)
		return false
	}
	if !isReply(r, p) || !bytes.Equal(answerOf(r, p), b) {
		t.Errorf("P7.2: Read(%+v, % x) is %+v", r, b, p)
	}
	return true
}

func TestReadOfEveryExceptionCode(t *testing.T) { // P7.2
	for _, r := range someRequests() {
		accepted := 0
		for code := range 256 {
			if wantReadByTheWords(t, r, []byte{byte(r.Func + 128), byte(code)}) {
				accepted++
			}
		}
		if accepted != 255 {
			t.Errorf("P7.2: %+v: %d exceptions are accepted", r, accepted)
		}
	}
}

func TestReadOfEveryLastByteOfBits(t *testing.T) { // P7.2
	for count := 1; count <= 24; count++ {
		size := (count + 7) / 8
		accepted := 0
		for last := range 256 {
			b := slices.Concat([]byte{2, byte(size)}, bytes.Repeat([]byte{0xA5}, size-1), []byte{byte(last)})
			if wantReadByTheWords(t, Request{Func: 2, Count: count}, b) {
				accepted++
			}
		}
		if want := 1 << ((count-1)%8 + 1); accepted != want {
			t.Errorf("P7.2: %d bits: %d last bytes are accepted, not %d", count, accepted, want)
		}
	}
}

func TestReadOfOneByteChanged(t *testing.T) { // P7.2
	for _, r := range someRequests() {
		b := answerOf(r, full(r))
		if len(b) > 30 {
			continue
		}
		for place := 1; place < len(b); place++ {
			for v := range 256 {
				changed := slices.Clone(b)
				changed[place] = byte(v)
				if wantReadByTheWords(t, r, changed) && r.Func > 4 && v != int(b[place]) {
					t.Errorf("P7.2: %+v is answered by % x and by % x", r, b, changed)
				}
			}
		}
	}
}

func TestReadAnswersTheRequestItself(t *testing.T) { // P7.2
	// The answer to a write of bits or registers does not have the values, so that it fits all that write as many there.
	r := Request{Func: 16, Start: 1, Count: 2, Values: []int{1, 2}}
	s := Request{Func: 16, Start: 1, Count: 2, Values: []int{3, 4}}
	wantReply(t, s, Reply{}, answerOf(r, Reply{}))
	// That to a write of one has the value.
	one, zero := Request{Func: 6, Count: 1, Values: []int{1}}, Request{Func: 6, Count: 1, Values: []int{0}}
	wantNotRead(t, zero, answerOf(one, Reply{}), 6, api.ErrForm)
}

func TestNoAnswerOfTwoReplies(t *testing.T) { // P7.5
	for function := 1; function <= 2; function++ {
		for count := 1; count <= 10; count++ {
			r := Request{Func: function, Count: count}
			var list []Reply
			for n := range 1 << count {
				values := make([]int, count)
				for place := range values {
					values[place] = n >> place & 1
				}
				list = append(list, Reply{Values: values})
			}
			wantDifferentAnswers(t, r, list)
		}
	}
	for function := 3; function <= 4; function++ {
		var list []Reply
		for v := range 65536 {
			list = append(list, Reply{Values: []int{v}})
		}
		wantDifferentAnswers(t, Request{Func: function, Count: 1}, list)
	}
	for _, function := range functions[4:] {
		wantDifferentAnswers(t, filled(function, 1, 1), []Reply{{}})
	}
}

// wantDifferentAnswers takes the exceptions too.
func wantDifferentAnswers(t *testing.T, r Request, list []Reply) {
	t.Helper()
	for code := 1; code <= 255; code++ {
		list = append(list, Reply{Code: code})
	}
	seen := map[string]bool{}
	for _, p := range list {
		b, err := Answer(r, p)
		if err != nil || seen[string(b)] {
			t.Fatalf("P7.5: %+v: % x is the answer of two replies (%v)", r, b, err)
		}
		seen[string(b)] = true
	}
}

func TestBackAgain(t *testing.T) { // P7.5
	random := rand.New(rand.NewSource(75))
	for range 3000 {
		r := randomRequest(random)
		p := randomReply(random, r)
		b, err := Encode(r)
		back, fault := Decode(b)
		if err != nil || fault != nil || !Same(back, r) {
			t.Fatalf("P7.5: %+v: % x, %+v, %v, %v", r, b, back, err, fault)
		}
		b, err = Answer(back, p)
		reply, fault := Read(back, b)
		if err != nil || fault != nil || !equalReplies(reply, p) {
			t.Fatalf("P7.5: %+v, %+v: % x, %+v, %v, %v", r, p, b, reply, err, fault)
		}
	}
}

func TestAnswersKeepAndShareNothing(t *testing.T) { // P7.4
	for _, r := range someRequests() {
		for _, p := range []Reply{full(r), {Code: 9}} {
			requestValues, requestWhole := roomy(r.Values, 1)
			replyValues, replyWhole := roomy(p.Values, 1)
			requestBefore, replyBefore := slices.Clone(requestWhole), slices.Clone(replyWhole)
			first, err := Answer(Request{r.Func, r.Start, r.Count, requestValues}, Reply{p.Code, replyValues})
			if err != nil || !slices.Equal(requestWhole, requestBefore) || !slices.Equal(replyWhole, replyBefore) {
				t.Fatalf("P7.4: %+v, %+v: an argument was changed (%v)", r, p, err)
			}
			overwrite(requestWhole)
			overwrite(replyWhole)
			second, _ := Answer(r, p)
			if !bytes.Equal(first, answerOf(r, p)) {
				t.Fatalf("P7.4: %+v, %+v: Answer keeps its argument", r, p)
			}
			overwrite(first[:cap(first)])
			if !bytes.Equal(second, answerOf(r, p)) {
				t.Fatalf("P7.4: %+v, %+v: two results of Answer share memory", r, p)
			}
		}
	}
}

func TestReadRepliesKeepAndShareNothing(t *testing.T) { // P7.4
	for _, r := range someRequests() {
		p := full(r)
		values, requestWhole := roomy(r.Values, 1)
		b, whole := roomy(answerOf(r, p), 1)
		requestBefore, before := slices.Clone(requestWhole), slices.Clone(whole)
		given := Request{r.Func, r.Start, r.Count, values}
		first, err := Read(given, b)
		second, _ := Read(given, b)
		if err != nil || !bytes.Equal(whole, before) || !slices.Equal(requestWhole, requestBefore) {
			t.Fatalf("P7.4: Read(%+v, % x) changed its argument (%v)", r, before, err)
		}
		overwrite(whole)
		overwrite(requestWhole)
		if !equalReplies(first, p) {
			t.Fatalf("P7.4: Read(%+v, % x) keeps its argument", r, before)
		}
		overwrite(first.Values[:cap(first.Values)])
		if !equalReplies(second, p) {
			t.Fatalf("P7.4: two results of Read(%+v, % x) share memory", r, before)
		}
	}
}
