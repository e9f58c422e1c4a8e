package wire

// fromLittle enters at the last byte, the highest one, and falls through to the first.
func fromLittle(b []byte) int {
	v := 0
	switch len(b) {
	case 6:
		v = int(b[5])
		fallthrough
	case 5:
		v = v<<8 | int(b[4])
		fallthrough
	case 4:
		v = v<<8 | int(b[3])
		fallthrough
	case 3:
		v = v<<8 | int(b[2])
		fallthrough
	case 2:
		v = v<<8 | int(b[1])
		fallthrough
	case 1:
		v = v<<8 | int(b[0])
	}
	return v
}

// fromBig counts from the end of b, since there the bytes have the same weight whatever their number is.
func fromBig(b []byte) int {
	v, end := 0, len(b)
	switch end {
	case 6:
		v = int(b[end-6])
		fallthrough
	case 5:
		v = v<<8 | int(b[end-5])
		fallthrough
	case 4:
		v = v<<8 | int(b[end-4])
		fallthrough
	case 3:
		v = v<<8 | int(b[end-3])
		fallthrough
	case 2:
		v = v<<8 | int(b[end-2])
		fallthrough
	case 1:
		v = v<<8 | int(b[end-1])
	}
	return v
}

// appendLittle fills a field from its highest byte down, and appends only the n bytes that were filled.
func appendLittle(out []byte, n, v int) []byte {
	var field [widest]byte
	switch n {
	case 6:
		field[5] = byte(v >> 40)
		fallthrough
	case 5:
		field[4] = byte(v >> 32)
		fallthrough
	case 4:
		field[3] = byte(v >> 24)
		fallthrough
	case 3:
		field[2] = byte(v >> 16)
		fallthrough
	case 2:
		field[1] = byte(v >> 8)
		fallthrough
	case 1:
		field[0] = byte(v)
	}
	return append(out, field[:n]...)
}

// appendBig appends from the highest of the n bytes down to the lowest.
func appendBig(out []byte, n, v int) []byte {
	switch n {
	case 6:
		out = append(out, byte(v>>40))
		fallthrough
	case 5:
		out = append(out, byte(v>>32))
		fallthrough
	case 4:
		out = append(out, byte(v>>24))
		fallthrough
	case 3:
		out = append(out, byte(v>>16))
		fallthrough
	case 2:
		out = append(out, byte(v>>8))
		fallthrough
	case 1:
		out = append(out, byte(v))
	}
	return out
}
