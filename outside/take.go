package outside

import (
	"errors"

	"switchyard/api"
	"switchyard/pdu"
	"switchyard/rtu"
)

// Function codes of the writes. Those of the reads are the numbers of their tables.
const (
	writeBit       = 5
	writeRegister  = 6
	writeBits      = 15
	writeRegisters = 16
)

// An exception is the function code with the highest bit set, and the reason.
const (
	exceptionBit = 0x80
	noFunction   = 1
	badData      = 3
)

// Take is the frame that answers the frame b, if the Slave answers it.
func (s *Slave) Take(b []byte) ([]byte, bool) {
	address, data, err := rtu.Open(b)
	if err != nil || address != s.address || len(data) == 0 {
		return nil, false
	}
	answer, err := rtu.Frame(address, s.answer(data))
	return answer, err == nil
}

// answer does what the data ask for, and gives the data of the answer.
func (s *Slave) answer(data []byte) []byte {
	r, err := pdu.Decode(data)
	switch {
	case errors.Is(err, api.ErrKind):
		return []byte{data[0] | exceptionBit, noFunction}
	case err != nil:
		return []byte{data[0] | exceptionBit, badData}
	}
	// Decode gives valid requests only, and the tables contain no other numbers than a reply may have.
	answer, _ := pdu.Answer(r, s.perform(r))
	return answer
}

// perform does what a valid request asks for.
func (s *Slave) perform(r pdu.Request) pdu.Reply {
	switch r.Func {
	case coils:
		fallthrough
	case discreteInputs:
		fallthrough
	case holdings:
		fallthrough
	case inputRegisters:
		return pdu.Reply{Values: s.read(r.Func, r.Start, r.Count)}
	case writeBit:
		fallthrough
	case writeBits:
		s.write(coils, r)
	case writeRegister:
		fallthrough
	case writeRegisters:
		s.write(holdings, r)
	}
	return pdu.Reply{}
}

func (s *Slave) read(table, start, count int) []int {
	values := make([]int, count)
	for i := range values {
		values[i] = s.Get(table, start+i)
	}
	return values
}

// write keeps the request too: its values are memory that nobody else has.
func (s *Slave) write(table int, r pdu.Request) {
	for i, v := range r.Values {
		s.put(place{table, r.Start + i}, v)
	}
	s.writes = append(s.writes, r)
}
