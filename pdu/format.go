package pdu

import "switchyard/wire"

// Function codes.
const (
	readCoils      = 1
	readDiscretes  = 2
	readHoldings   = 3
	readInputs     = 4
	writeBit       = 5
	writeRegister  = 6
	writeBits      = 15
	writeRegisters = 16
)

const (
	addresses   = 65536
	maxRegister = 65535
	maxBit      = 1
	bitOn       = 0xFF00 // the word of a bit that is written alone, for 1
)

// format is what the requests of a function may have: the greatest Count, the greatest value, and whether the values
// stand in the reply and not in the request.
type format struct {
	most, top int
	reads     bool
}

// formatOf is zero for a number that is no function code.
func formatOf(function int) format {
	switch function {
	case readCoils:
		fallthrough
	case readDiscretes:
		return format{most: 2000, top: maxBit, reads: true}
	case readHoldings:
		fallthrough
	case readInputs:
		return format{most: 125, top: maxRegister, reads: true}
	case writeBit:
		return format{most: 1, top: maxBit}
	case writeRegister:
		return format{most: 1, top: maxRegister}
	case writeBits:
		return format{most: 1968, top: maxBit}
	case writeRegisters:
		return format{most: 123, top: maxRegister}
	}
	return format{}
}

func isFunction(function int) bool { return formatOf(function).most > 0 }

func areValues(values []int, wanted, top int) bool {
	if len(values) != wanted {
		return false
	}
	for _, v := range values {
		if !isWithin(v, 0, top) {
			return false
		}
	}
	return true
}

func isWithin(n, least, greatest int) bool { return least <= n && n <= greatest }

// putValues writes the number of bytes that the values take, and these bytes.
func putValues(w *wire.Writer, function int, values []int) {
	data := dataOf(function, values)
	w.B(1, len(data))
	w.Bytes(data)
}

// takeValues reads what putValues wrote. It gives fewer values than count if there are bytes for no more.
func takeValues(in *wire.Reader, function, count int) []int {
	size, _ := in.B(1)
	data, _ := in.Bytes(size)
	return valuesOf(function, data, count)
}

func dataOf(function int, values []int) []byte {
	if formatOf(function).top == maxBit {
		return packed(values)
	}
	return inWords(values)
}

func valuesOf(function int, data []byte, count int) []int {
	if formatOf(function).top == maxBit {
		return unpacked(data, count)
	}
	return fromWords(data, count)
}

func packed(values []int) []byte {
	data := make([]byte, (len(values)+7)/8)
	for place, v := range values {
		data[place/8] |= byte(v << (place % 8))
	}
	return data
}

func unpacked(data []byte, count int) []int {
	var values []int
	for place := range min(count, 8*len(data)) {
		values = append(values, int(data[place/8]>>(place%8))&1)
	}
	return values
}

func inWords(values []int) []byte {
	w := wire.NewWriter()
	for _, v := range values {
		w.B(2, v)
	}
	return w.Out()
}

func fromWords(data []byte, count int) []int {
	in := wire.NewReader(data)
	var values []int
	for range min(count, len(data)/2) {
		v, _ := in.B(2)
		values = append(values, v)
	}
	return values
}
