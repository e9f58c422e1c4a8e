package outside

import (
	"bytes"
	"math/rand"
	"slices"
	"testing"

	"switchyard/api"
	"switchyard/master"
	"switchyard/pdu"
	"switchyard/rtu"
)

// model follows the words of the chapter, and those of chapter 7 on what a request is.
type model struct {
	address int
	tables  [5]map[int]int
	writes  []pdu.Request
}

func modelOf(address int) *model {
	m := &model{address: address}
	for table := range m.tables {
		m.tables[table] = map[int]int{}
	}
	return m
}

func (m *model) copied() *model {
	o := modelOf(m.address)
	for table, numbers := range m.tables {
		for at, v := range numbers {
			o.tables[table][at] = v
		}
	}
	o.writes = slices.Clone(m.writes)
	return o
}

func (m *model) set(table, at, v int) bool {
	top, isTable := tops()[table]
	if !isTable || at < 0 || at > 65535 || v < 0 || v > top {
		return false
	}
	m.tables[table][at] = v
	return true
}

func (m *model) get(table, at int) int {
	if table < 1 || table > 4 {
		return 0
	}
	return m.tables[table][at]
}

// take gives nil for no answer.
func (m *model) take(b []byte) []byte {
	if len(b) < 4 || len(b) > 256 || !bytes.Equal(b, framed(b[0], b[1:len(b)-2]...)) || int(b[0]) != m.address {
		return nil
	}
	return framed(b[0], m.answer(b[1:len(b)-2])...)
}

func (m *model) answer(data []byte) []byte {
	function := int(data[0])
	if !slices.Contains(functions, function) {
		return []byte{data[0] | 128, 1}
	}
	refused := []byte{data[0] + 128, 3}
	if len(data) < 5 {
		return refused
	}
	start, number := 256*int(data[1])+int(data[2]), 256*int(data[3])+int(data[4])
	if function <= 4 {
		most := map[bool]int{true: 2000, false: 125}[function <= 2]
		if len(data) != 5 || number < 1 || number > most || start+number > 65536 {
			return refused
		}
		var values []int
		for at := start; at < start+number; at++ {
			values = append(values, m.tables[function][at])
		}
		return append([]byte{data[0]}, inBytes(function <= 2, values)...)
	}
	values := valuesOf(function, number, data)
	if values == nil || start+len(values) > 65536 {
		return refused
	}
	for i, v := range values {
		m.tables[tableOf(function)][start+i] = v
	}
	m.writes = append(m.writes, pdu.Request{Func: function, Start: start, Count: len(values), Values: values})
	return data[:5]
}

// valuesOf are the values of a write, or nil if the data are of none; number is the word behind Start.
func valuesOf(function, number int, data []byte) []int {
	rest := data[5:]
	switch {
	case function == 5 && len(rest) == 0 && number == 0:
		return []int{0}
	case function == 5 && len(rest) == 0 && number == 0xFF00:
		return []int{1}
	case function == 6 && len(rest) == 0:
		return []int{number}
	case function < 15 || number < 1 || function == 15 && number > 1968 || function == 16 && number > 123 || len(rest) < 1:
		return nil
	}
	var values []int
	for i := range number {
		switch {
		case function == 15 && 1+i/8 < len(rest):
			values = append(values, int(rest[1+i/8])>>(i%8)&1)
		case function == 16 && 2+2*i < len(rest):
			values = append(values, 256*int(rest[1+2*i])+int(rest[2+2*i]))
		}
	}
	if len(values) != number || !bytes.Equal(rest, inBytes(function == 15, values)) {
		return nil
	}
	return values
}

// randomPlace is near one of a few places for the most part, so that what is written is read.
func randomPlace(random *rand.Rand) int {
	near := []int{0, 40, 65520}[random.Intn(3)] + random.Intn(16)
	return []int{near, near, near, random.Intn(65536)}[random.Intn(4)]
}

func randomCount(random *rand.Rand, most int) int {
	return []int{1, 1 + random.Intn(10), 1 + random.Intn(most), most}[random.Intn(4)]
}

func randomValues(random *rand.Rand, count, top int) []int {
	values := make([]int, count)
	for i := range values {
		values[i] = random.Intn(top + 1)
		if random.Intn(3) == 0 {
			values[i] = 0
		}
	}
	return values
}

// randomData are those of a valid request.
func randomData(random *rand.Rand) []byte {
	function := functions[random.Intn(len(functions))]
	most := map[int]int{1: 2000, 2: 2000, 3: 125, 4: 125, 5: 1, 6: 1, 15: 1968, 16: 123}[function]
	count := randomCount(random, most)
	start := min(randomPlace(random), 65536-count)
	if function <= 4 {
		return reading(function, start, count)
	}
	values := randomValues(random, count, tops()[tableOf(function)])
	return writing(pdu.Request{Func: function, Start: start, Count: count, Values: values})
}

// spoilt are data with a fault, in most cases.
func spoilt(random *rand.Rand, data []byte) []byte {
	b := slices.Clone(data)
	switch random.Intn(5) {
	case 0:
		b = b[:1+random.Intn(len(b))]
	case 1:
		b = append(b, make([]byte, 1+random.Intn(2))...)
	case 2:
		b[random.Intn(len(b))] = byte(random.Intn(256))
	case 3:
		b[0] = byte(random.Intn(256))
	case 4:
		b[random.Intn(len(b))] ^= 1 << random.Intn(8)
	}
	return b
}

// randomFrame is to one of two slaves, and has a fault sometimes.
func randomFrame(random *rand.Rand, addresses []int) []byte {
	data := randomData(random)
	if random.Intn(4) == 0 {
		data = spoilt(random, data)
	}
	b := framed(byte(addresses[random.Intn(len(addresses))]), data...)
	switch random.Intn(20) {
	case 0:
		b[random.Intn(len(b))] ^= 1 << random.Intn(8)
	case 1:
		b = b[:random.Intn(len(b))]
	case 2:
		b = framed(byte(random.Intn(256)), data...)
	}
	return b
}

// pair is a slave and its model.
type pair struct {
	slave *Slave
	model *model
}

// step lets both do one thing, and compares what they tell.
func (p pair) step(t *testing.T, random *rand.Rand, addresses []int) {
	t.Helper()
	switch random.Intn(5) {
	case 0:
		table, at, v := random.Intn(6), randomPlace(random)+random.Intn(40)-20, random.Intn(4)-1
		if random.Intn(2) == 0 {
			v = random.Intn(65540)
		}
		if ok := p.slave.Set(table, at, v); ok != p.model.set(table, at, v) {
			t.Fatalf("P11.1: Set(%d, %d, %d) is %t", table, at, v, ok)
		}
	case 1:
		table, at := random.Intn(6), randomPlace(random)+random.Intn(40)-20
		if v := p.slave.Get(table, at); v != p.model.get(table, at) {
			t.Fatalf("P11.1: Get(%d, %d) is %d, not %d", table, at, v, p.model.get(table, at))
		}
	default:
		b := randomFrame(random, addresses)
		got, ok := p.slave.Take(b)
		want := p.model.take(b)
		if ok != (want != nil) || !bytes.Equal(got, want) {
			t.Fatalf("P11.2: Take of % x is % x, %t, not % x", b, got, ok, want)
		}
	}
}

// compare asks for all that there is.
func (p pair) compare(t *testing.T) {
	t.Helper()
	wantAll(t, "P11.4: a play", p.slave, p.model.get)
	wantWrites(t, "a play", p.slave, p.model.writes...)
}

func TestPlaysFollowTheWords(t *testing.T) { // P11.1 to P11.4
	random := rand.New(rand.NewSource(111))
	addresses := []int{17, 0, 255}
	for range 6 {
		var pairs []pair
		for _, address := range addresses {
			pairs = append(pairs, pair{New(address), modelOf(address)})
		}
		for n := range 1500 {
			i := random.Intn(len(pairs))
			pairs[i].step(t, random, addresses)
			if n%300 == 299 {
				p := pairs[random.Intn(len(pairs))]
				pairs = append(pairs, pair{p.slave.Copy(), p.model.copied()})
			}
		}
		for _, p := range pairs {
			p.compare(t)
		}
	}
}

// TestReadsGiveWhatWasStoredLast asks by pdu, as a master does: each number is the one that the last write or Set stored there.
func TestReadsGiveWhatWasStoredLast(t *testing.T) { // P11.4
	random := rand.New(rand.NewSource(112))
	for range 20 {
		s, last, writes := New(3), map[[2]int]int{}, []pdu.Request(nil)
		for range 400 {
			if random.Intn(4) == 0 {
				table := 1 + random.Intn(4)
				at, v := randomPlace(random), random.Intn(tops()[table]+1)
				set(t, s, table, at, v)
				last[[2]int{table, at}] = v
				continue
			}
			data := randomData(random)
			r, err := pdu.Decode(data)
			if err != nil {
				t.Fatal(err)
			}
			answer, _ := s.Take(framed(3, data...))
			_, data, err = rtu.Open(answer)
			if err != nil {
				t.Fatalf("P11.2: the answer to %+v is no frame: % x", r, answer)
			}
			reply, err := pdu.Read(r, data)
			if err != nil || reply.Code != 0 {
				t.Fatalf("P11.2: the answer to %+v is %+v, %v", r, reply, err)
			}
			for i, v := range reply.Values {
				if want := last[[2]int{r.Func, r.Start + i}]; v != want {
					t.Fatalf("P11.4: %d at %d of the table %d, not %d", v, r.Start+i, r.Func, want)
				}
			}
			for i, v := range r.Values {
				last[[2]int{tableOf(r.Func), r.Start + i}] = v
			}
			if r.Func > 4 {
				writes = append(writes, r)
			}
		}
		wantOnly(t, "P11.4: a play", s, last)
		wantWrites(t, "a play", s, writes...)
	}
}

// TestReadsInAnyPlaceOfAPlayChangeNothing lets one of two equal slaves be read between all steps.
func TestReadsInAnyPlaceOfAPlayChangeNothing(t *testing.T) { // P11.4
	random := rand.New(rand.NewSource(113))
	a, b := New(3), New(3)
	for range 400 {
		data := randomData(random)
		first, _ := a.Take(framed(3, data...))
		for range 3 {
			b.Take(framed(3, reading(1+random.Intn(4), randomPlace(random)/2, randomCount(random, 125))...))
			b.Get(random.Intn(6), randomPlace(random))
			b.Writes()
			b.Copy()
		}
		second, _ := b.Take(framed(3, data...))
		if !bytes.Equal(first, second) {
			t.Fatalf("P11.4: % x is answered by % x, and behind reads by % x", data, first, second)
		}
	}
	wantAll(t, "P11.4: reads between", b, a.Get)
	wantWrites(t, "reads between", b, a.Writes()...)
}

// TestWithAMaster joins the two ends of the line.
func TestWithAMaster(t *testing.T) { // P11.2, P11.4
	m, err := master.New(api.Config{
		Own: 1, Master: 2, Reply: 9, Silence: 2, Retries: 1, Offline: 2, Select: 9, Confirm: 9, Frag: 300,
		Room: [3]int{4, 4, 4}, Slaves: []int{17, 3}, Polls: []api.Poll{{Slave: 0, Func: 1, Start: 4, Count: 3, Every: 20}, {Slave: 1, Func: 3, Start: 65535, Count: 1, Every: 20}},
	})
	if err != nil {
		t.Fatal(err)
	}
	slaves := []*Slave{New(17), New(3)}
	var told []master.Result
	for n := range 200 {
		if n == 50 {
			m.Write(0, 5, 6, 1)
			m.Write(1, 6, 65535, 40000)
		}
		b, r, ok := m.Tick()
		if ok {
			told = append(told, r)
		}
		for _, s := range slaves {
			answer, _ := s.Take(b)
			for _, each := range answer {
				m.Byte(each)
			}
		}
	}
	seen := map[int][]int{}
	for _, r := range told {
		if !r.OK {
			t.Fatalf("P11.2: %+v", r)
		}
		if r.Poll >= 0 {
			seen[r.Poll] = r.Values
		}
	}
	if len(told) < 10 || !slices.Equal(told[0].Values, []int{0, 0, 0}) || !slices.Equal(seen[0], []int{0, 0, 1}) || !slices.Equal(seen[1], []int{40000}) {
		t.Errorf("P11.4: %+v", told)
	}
	wantWrites(t, "of a master", slaves[0], pdu.Request{Func: 5, Start: 6, Count: 1, Values: []int{1}})
	wantWrites(t, "of a master", slaves[1], pdu.Request{Func: 6, Start: 65535, Count: 1, Values: []int{40000}})
}
