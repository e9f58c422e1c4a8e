package rtu

import (
	"bytes"
	"encoding/hex"
	"errors"
	"math"
	"slices"
	"strings"
	"testing"

	"switchyard/api"
	"switchyard/fail"
)

// longestPDU is the number of bytes that fit into a frame of 256 bytes beside the address and the checksum.
const longestPDU = 253

// wrongAddrs are numbers that no frame is addressed to; some of them are an address in their lowest byte.
var wrongAddrs = []int{-1, 256, -2, 257, -255, -256, 511, 512, 65536, 1 << 32, 1<<32 + 1, math.MinInt, math.MinInt + 1, math.MaxInt}

// checksumOf is the checksum of Modbus by its words, in the two bytes of a frame.
func checksumOf(b []byte) []byte {
	sum := 0xFFFF
	for _, x := range b {
		sum ^= int(x)
		for range 8 {
			odd := sum%2 == 1
			sum /= 2
			if odd {
				sum ^= 0xA001
			}
		}
	}
	return []byte{byte(sum % 256), byte(sum / 256)}
}

// closed is b with its checksum behind it.
func closed(b ...byte) []byte { return slices.Concat(b, checksumOf(b)) }

func fromHex(t *testing.T, text string) []byte {
	t.Helper()
	b, err := hex.DecodeString(strings.ReplaceAll(text, " ", ""))
	if err != nil {
		t.Fatal(err)
	}
	return b
}

// mixed is n bytes that look random; each seed gives other ones.
func mixed(n, seed int) []byte {
	x := uint32(seed)*2654435761 + 1
	b := make([]byte, n)
	for i := range b {
		x = x*1664525 + 1013904223
		b[i] = byte(x >> 24)
	}
	return b
}

// roomy is b with spare capacity, and all of its memory.
func roomy(b []byte) (part, whole []byte) {
	whole = append(slices.Clip(slices.Clone(b)), 0xA1, 0xB2, 0xC3, 0xD4)
	return whole[:len(b)], whole
}

// overwrite changes each byte of b, and those of its spare capacity.
func overwrite(b []byte) {
	b = b[:cap(b)]
	for i := range b {
		b[i] = ^b[i]
	}
}

// wantFault checks that err is the code wrapped once, by rtu and the place.
func wantFault(t *testing.T, what string, err error, place int, code api.Code) {
	t.Helper()
	var f *fail.Fail
	if !errors.As(err, &f) || error(f) != err || *f != (fail.Fail{Where: "rtu", Place: place, Err: code}) {
		t.Errorf("%s: %v, not rtu %d: %v", what, err, place, code)
	}
}

func wantFramed(t *testing.T, addr int, pdu, want []byte) {
	t.Helper()
	if got, err := Frame(addr, pdu); err != nil || !bytes.Equal(got, want) {
		t.Errorf("Frame(%d, % x) is % x, %v, not % x", addr, pdu, got, err, want)
	}
}

func wantNotFramed(t *testing.T, addr int, pdu []byte, code api.Code) {
	t.Helper()
	got, err := Frame(addr, pdu)
	wantFault(t, "Frame", err, len(pdu), code)
	if len(got) != 0 {
		t.Errorf("Frame(%d, %d bytes) is % x beside an error", addr, len(pdu), got)
	}
}

func wantOpened(t *testing.T, b []byte, addr int, pdu []byte) {
	t.Helper()
	if a, got, err := Open(b); err != nil || a != addr || !bytes.Equal(got, pdu) {
		t.Errorf("Open(% x) is %d, % x, %v, not %d, % x", b, a, got, err, addr, pdu)
	}
}

func wantNotOpened(t *testing.T, b []byte, code api.Code) {
	t.Helper()
	addr, got, err := Open(b)
	wantFault(t, "Open", err, len(b), code)
	if addr != 0 || len(got) != 0 {
		t.Errorf("Open(% x) is %d, % x beside an error", b, addr, got)
	}
}

func TestExamplesOfFrames(t *testing.T) { // P8.1
	pdu, frame := []byte{3, 0, 0, 0, 1}, fromHex(t, "01 03 00 00 00 01 84 0A")
	wantFramed(t, 1, pdu, frame)
	wantOpened(t, frame, 1, pdu)
}

func TestFramesAsPublished(t *testing.T) { // P8.1
	for _, text := range []string{"11 03 00 6B 00 03 76 87", "01 03 00 00 00 0A C5 CD", "11 05 00 AC FF 00 4E 8B", "11 06 00 01 00 03 9A 9B", "0A 81 02 B0 53"} {
		b := fromHex(t, text)
		wantFramed(t, int(b[0]), b[1:len(b)-2], b)
		wantOpened(t, b, int(b[0]), b[1:len(b)-2])
	}
}

func TestFramesOfEveryAddress(t *testing.T) { // P8.1
	for addr := range 256 {
		for _, pdu := range [][]byte{{0}, {3}, {255}, {3, 0, 0, 0, 1}, mixed(longestPDU, addr)} {
			want := closed(append([]byte{byte(addr)}, pdu...)...)
			wantFramed(t, addr, pdu, want)
			wantOpened(t, want, addr, pdu)
		}
	}
}

func TestFramesOfEveryLength(t *testing.T) { // P8.1
	for n := 1; n <= longestPDU; n++ {
		for _, pdu := range [][]byte{make([]byte, n), bytes.Repeat([]byte{255}, n), mixed(n, 1), mixed(n, 2)} {
			for _, addr := range []int{0, 17, 255} {
				want := closed(append([]byte{byte(addr)}, pdu...)...)
				wantFramed(t, addr, pdu, want)
				wantOpened(t, want, addr, pdu)
			}
		}
	}
}

func TestLongestFrames(t *testing.T) { // P8.1
	b, err := Frame(255, make([]byte, longestPDU))
	if err != nil || len(b) != api.MaxADU {
		t.Errorf("Frame of %d bytes: %d bytes, %v", longestPDU, len(b), err)
	}
	for _, n := range []int{longestPDU + 1, 255, 256, 257, 509, 510, 1000, 65536, 65537, 1 << 20} {
		wantNotFramed(t, 0, make([]byte, n), api.ErrLong)
		wantNotFramed(t, 255, mixed(n, 3), api.ErrLong)
	}
}

func TestFramesOfNothing(t *testing.T) { // P8.1
	for _, addr := range []int{0, 1, 255} {
		wantNotFramed(t, addr, nil, api.ErrShort)
		wantNotFramed(t, addr, []byte{}, api.ErrShort)
		wantNotFramed(t, addr, []byte{3, 0, 0}[:0], api.ErrShort)
	}
}

func TestFramesOfWrongAddresses(t *testing.T) { // P8.1
	for _, addr := range wrongAddrs {
		wantNotFramed(t, addr, []byte{3}, api.ErrRange)
		wantNotFramed(t, addr, make([]byte, longestPDU), api.ErrRange)
		// The address counts ahead of a pdu that is too short or too long.
		wantNotFramed(t, addr, nil, api.ErrRange)
		wantNotFramed(t, addr, []byte{}, api.ErrRange)
		wantNotFramed(t, addr, make([]byte, longestPDU+1), api.ErrRange)
		wantNotFramed(t, addr, make([]byte, 5000), api.ErrRange)
	}
}

func TestOpenOfTooFewBytes(t *testing.T) { // P8.1
	for _, b := range [][]byte{
		nil, {}, {1}, {1, 2}, {1, 2, 3}, {0, 0, 0},
		// Their checksums are right, and those of the next ones are wrong as well: the length counts first.
		closed(), closed(1), closed(255), {0xFF, 0xFE}, {1, 0x7E, 0x81},
	} {
		wantNotOpened(t, b, api.ErrShort)
	}
	wantNotOpened(t, closed(1, 3)[:3], api.ErrShort)
	wantNotOpened(t, closed(1, 3)[:0], api.ErrShort)
}

func TestOpenOfTheFewestBytes(t *testing.T) { // P8.1
	for addr := range 256 {
		for first := range 256 {
			wantOpened(t, closed(byte(addr), byte(first)), addr, []byte{byte(first)})
		}
	}
	wantNotOpened(t, []byte{1, 2, 3, 4}, api.ErrSum)
}

func TestOpenOfTheMostBytes(t *testing.T) { // P8.1
	b := closed(mixed(254, 4)...)
	if len(b) != api.MaxADU {
		t.Fatalf("%d bytes", len(b))
	}
	wantOpened(t, b, int(b[0]), b[1:254])
	for _, n := range []int{255, 256, 300, 65534, 65790} {
		wantNotOpened(t, closed(mixed(n, 5)...), api.ErrLong)
		// The length counts ahead of a wrong checksum.
		wantNotOpened(t, mixed(n+2, 5), api.ErrLong)
	}
	// The frame in front of the byte too many is right.
	wantNotOpened(t, append(b, 0), api.ErrLong)
}

func TestOpenOfWrongChecksums(t *testing.T) { // P8.1
	for _, frame := range [][]byte{closed(1, 3), closed(0, 0), closed(1, 3, 0, 0, 0, 1), closed(mixed(254, 6)...)} {
		for place := len(frame) - 2; place < len(frame); place++ {
			for by := 1; by < 256; by++ {
				wrong := slices.Clone(frame)
				wrong[place] += byte(by)
				wantNotOpened(t, wrong, api.ErrSum)
			}
		}
		swapped := slices.Clone(frame)
		swapped[len(frame)-2], swapped[len(frame)-1] = frame[len(frame)-1], frame[len(frame)-2]
		wantNotOpened(t, swapped, api.ErrSum)
	}
	for _, n := range []int{4, 5, 8, 9, 255, 256} {
		wantNotOpened(t, bytes.Repeat([]byte{7}, n), api.ErrSum)
	}
}

func TestOneChecksumOfAllIsRight(t *testing.T) { // P8.1
	data := []byte{1, 3, 0, 0, 0, 1}
	for sum := range 65536 {
		b := append(slices.Clone(data), byte(sum), byte(sum>>8))
		if sum == 0x0A84 {
			wantOpened(t, b, 1, data[1:])
			continue
		}
		wantNotOpened(t, b, api.ErrSum)
	}
}

func TestFramesCutOffOrTooMany(t *testing.T) { // P8.1
	frame := closed(1, 3, 0, 0, 0, 1)
	for n := range frame {
		code := api.ErrSum
		if n < 4 {
			code = api.ErrShort
		}
		wantNotOpened(t, frame[:n], code)
	}
	for more := 1; more < 256; more++ {
		wantNotOpened(t, append(slices.Clone(frame), byte(more)), api.ErrSum)
	}
}

func TestFrameKeepsAndSharesNothing(t *testing.T) { // P8.3
	for _, n := range []int{1, 2, 5, 13, 29, longestPDU} {
		pdu, whole := roomy(mixed(n, 7))
		before := slices.Clone(whole)
		want := closed(append([]byte{9}, pdu...)...)
		first, err := Frame(9, pdu)
		second, _ := Frame(9, pdu)
		if err != nil || !bytes.Equal(whole, before) {
			t.Fatalf("P8.3: Frame of %d bytes changed its argument: % x, %v", n, whole, err)
		}
		overwrite(whole)
		if !bytes.Equal(first, want) {
			t.Errorf("P8.3: Frame of %d bytes keeps its argument", n)
		}
		copy(whole, before)
		overwrite(first)
		_ = append(first, 1, 2, 3, 4)
		if !bytes.Equal(second, want) || !bytes.Equal(whole, before) {
			t.Errorf("P8.3: Frame of %d bytes shares its result", n)
		}
		wantFramed(t, 9, pdu, want)
	}
}

func TestOpenKeepsAndSharesNothing(t *testing.T) { // P8.3
	for _, n := range []int{1, 2, 5, 13, 29, longestPDU} {
		pdu := mixed(n, 8)
		b, whole := roomy(closed(append([]byte{9}, pdu...)...))
		before := slices.Clone(whole)
		_, first, err := Open(b)
		_, second, _ := Open(b)
		if err != nil || !bytes.Equal(whole, before) {
			t.Fatalf("P8.3: Open of %d bytes changed its argument: % x, %v", n, whole, err)
		}
		overwrite(whole)
		if !bytes.Equal(first, pdu) {
			t.Errorf("P8.3: Open of %d bytes keeps its argument", n)
		}
		copy(whole, before)
		overwrite(first)
		_ = append(first, 1, 2, 3, 4)
		if !bytes.Equal(second, pdu) || !bytes.Equal(whole, before) {
			t.Errorf("P8.3: Open of %d bytes shares its result", n)
		}
		wantOpened(t, b, 9, pdu)
	}
}

func TestErrorsChangeNoArgument(t *testing.T) { // P8.3
	for _, n := range []int{0, 1, 3, 4, 9, longestPDU + 1, 256, 257} {
		b, whole := roomy(mixed(n, 9))
		before := slices.Clone(whole)
		Frame(256, b)
		Frame(1, b)
		Open(b)
		if !bytes.Equal(whole, before) {
			t.Errorf("P8.3: %d bytes were changed: % x", n, whole)
		}
	}
}

func TestOpenOfFrame(t *testing.T) { // P8.4
	for n := 1; n <= longestPDU; n++ {
		for _, addr := range []int{0, 1, 127, 128, n, 255} {
			pdu := mixed(n, addr)
			frame, err := Frame(addr, pdu)
			if err != nil {
				t.Fatalf("P8.4: Frame(%d, % x): %v", addr, pdu, err)
			}
			wantOpened(t, frame, addr, pdu)
		}
	}
}

func TestOneInvertedBitIsRejected(t *testing.T) { // P8.4
	for _, n := range []int{1, 2, 3, 5, 8, 17, 64, 130, 252, longestPDU} {
		for _, pdu := range [][]byte{make([]byte, n), bytes.Repeat([]byte{255}, n), mixed(n, 10)} {
			frame, _ := Frame(n%256, pdu)
			for bit := range 8 * len(frame) {
				frame[bit/8] ^= 1 << (bit % 8)
				wantNotOpened(t, frame, api.ErrSum)
				frame[bit/8] ^= 1 << (bit % 8)
			}
			wantOpened(t, frame, n%256, pdu)
		}
	}
}
