package config

import (
	"bytes"
	"encoding/hex"
	"math/rand"
	"slices"
	"strings"
	"testing"

	"switchyard/api"
	"switchyard/fail"
)

// field is a number of an image and the bytes that it takes; a negative one stands in two's complement.
type field struct{ width, value int }

// fieldsOf follows the words of P6.2, without the three bytes at the beginning and the checksum.
func fieldsOf(c api.Config) []field {
	flags := 0
	if c.Unsol {
		flags = 1
	}
	list := []field{
		{2, c.Own}, {2, c.Master}, {1, flags}, {2, c.Reply}, {1, c.Silence}, {1, c.Retries}, {1, c.Offline},
		{2, c.Select}, {2, c.Confirm}, {2, c.Frag}, {1, c.Room[0]}, {1, c.Room[1]}, {1, c.Room[2]},
	}
	list = append(list, field{1, len(c.Slaves)})
	for _, s := range c.Slaves {
		list = append(list, field{1, s})
	}
	list = append(list, field{1, len(c.Polls)})
	for _, p := range c.Polls {
		list = append(list, field{1, p.Slave}, field{1, p.Func}, field{2, p.Start}, field{1, p.Count}, field{2, p.Every})
	}
	list = append(list, field{1, len(c.Points)})
	for _, p := range c.Points {
		list = append(list, field{1, p.Kind}, field{1, p.Poll}, field{1, p.Place}, field{1, p.Class},
			field{4, p.Dead}, field{2, p.Num}, field{2, p.Den}, field{4, p.Off})
	}
	list = append(list, field{1, len(c.Controls)})
	for _, k := range c.Controls {
		list = append(list, field{1, k.Kind}, field{1, k.Slave}, field{2, k.Reg})
	}
	return list
}

// imageOf is the image by the words of P6.2, also of a configuration that is not valid.
func imageOf(c api.Config) []byte {
	b := []byte{0x53, 0x59, 0x01}
	for _, f := range fieldsOf(c) {
		for k := range f.width {
			b = append(b, byte(f.value>>(8*k)))
		}
	}
	return summed(b)
}

// summed appends the right checksum, worked out bit by bit here.
func summed(b []byte) []byte {
	sum := 0xFFFF
	for _, x := range b {
		sum ^= int(x)
		for range 8 {
			odd := sum&1 == 1
			sum >>= 1
			if odd {
				sum ^= 0xA001
			}
		}
	}
	return append(slices.Clip(b), byte(sum), byte(sum>>8))
}

// shortAt is the path of an image that ends within the field at this offset.
func shortAt(offset int) []fail.Step {
	return []fail.Step{image(offset), {Where: "wire", Place: offset}}
}

func image(offset int) fail.Step { return fail.Step{Where: "image", Place: offset} }

// wantRefused asks also for a zero configuration beside the error.
func wantRefused(t *testing.T, what string, b []byte, code api.Code, path ...fail.Step) {
	t.Helper()
	c, err := Parse(b)
	wantError(t, what, err, code, path...)
	if !equal(c, api.Config{}) {
		t.Errorf("P0.3: %s: %+v beside an error", what, c)
	}
}

func wantParsed(t *testing.T, b []byte, want api.Config) {
	t.Helper()
	got, err := Parse(b)
	if err != nil || !equal(got, want) || !Same(got, want) {
		t.Errorf("Parse(% x) is %+v, %v, not %+v", b, got, err, want)
	}
}

func wantPrinted(t *testing.T, c api.Config, want []byte) {
	t.Helper()
	if got, err := Print(c); err != nil || !bytes.Equal(got, want) {
		t.Errorf("Print(%+v) is % x, %v, not % x", c, got, err, want)
	}
}

func fromHex(t *testing.T, words ...string) []byte {
	t.Helper()
	b, err := hex.DecodeString(strings.ReplaceAll(strings.Join(words, ""), " ", ""))
	if err != nil {
		t.Fatal(err)
	}
	return b
}

func TestImageOfTheSmallestConfiguration(t *testing.T) { // P6.2, P6.3
	want := fromHex(t, "53 59 01", "01 00 02 00 00 01 00 01 00 01 01 00 01 00 f9 00 01 01 01", "01 01", "00 00 00", "56 29")
	if len(want) != 27+2 {
		t.Fatalf("P6.2: %d bytes", len(want))
	}
	wantPrinted(t, least(), want)
	wantParsed(t, want, least())
}

func TestImageWrittenOut(t *testing.T) { // P6.2, P6.3
	c := usual()
	c.Slaves, c.Polls, c.Points, c.Controls = c.Slaves[:2], c.Polls[2:4], c.Points[:1], c.Controls[1:3]
	c.Polls[1].Slave, c.Points[0].Poll = 1, 0
	want := fromHex(t, "53 59 01",
		"00 04", "01 02", "01", "bc 02", "14", "03", "04", "d0 07", "b8 0b", "e8 03", "0a 14 1e",
		"02", "11 05",
		"02", "00 03 01 00 32 0f 27", "01 04 02 01 06 02 01",
		"01", "03 00 04 02 70 11 01 00 d4 fe 03 02 90 ee fe ff",
		"02", "06 00 02 01", "06 01 03 00",
		"ca 0d")
	wantPrinted(t, c, want)
	wantParsed(t, want, c)
}

func TestImagesFollowTheWords(t *testing.T) { // P6.2, P6.3, P6.6
	random := rand.New(rand.NewSource(62))
	list := valid()
	for range 300 {
		list = append(list, anyValid(random))
	}
	for _, c := range list {
		b := imageOf(c)
		wantPrinted(t, c, b)
		wantParsed(t, b, c)
	}
}

func TestThereAndBack(t *testing.T) { // P6.6
	random := rand.New(rand.NewSource(63))
	list := valid()
	for range 300 {
		list = append(list, anyValid(random))
	}
	for i, c := range list {
		b, err := Print(c)
		if err != nil {
			t.Fatalf("P6.6: Print of configuration %d: %v", i, err)
		}
		back, err := Parse(b)
		if err != nil || !equal(back, c) {
			t.Fatalf("P6.6: Parse of Print of configuration %d: %+v, %v", i, back, err)
		}
		again, err := Print(back)
		if err != nil || !bytes.Equal(again, b) {
			t.Fatalf("P6.6: Print of Parse of image %d: % x, %v", i, again, err)
		}
	}
}

func TestEachFieldAtItsBoundsThereAndBack(t *testing.T) { // P6.2, P6.6
	for _, change := range []func(c *api.Config){
		func(c *api.Config) { c.Own, c.Master = 0, 65519 },
		func(c *api.Config) { c.Own, c.Master = 65519, 0 },
		func(c *api.Config) { c.Unsol = false },
		func(c *api.Config) { c.Reply, c.Silence = 10000, 100 },
		func(c *api.Config) { c.Retries = 5 },
		func(c *api.Config) { c.Offline = 10 },
		func(c *api.Config) { c.Select = 10000 },
		func(c *api.Config) { c.Confirm = 10000 },
		func(c *api.Config) { c.Frag = 2048 },
		func(c *api.Config) { c.Room = [3]int{60, 1, 59} },
		func(c *api.Config) { c.Polls[2].Start, c.Polls[2].Every = 65486, 10000 },
		func(c *api.Config) {
			c.Points[0] = api.Point{Kind: api.Analog, Poll: 2, Dead: 1000000, Num: 1000, Den: 1000, Off: 1000000}
		},
		func(c *api.Config) {
			c.Points[0] = api.Point{Kind: api.Analog, Poll: 2, Num: -1000, Den: 1, Off: -1000000}
		},
		func(c *api.Config) { c.Points[0] = api.Point{Kind: api.Analog, Poll: 2, Num: -1, Den: 256, Off: -1} },
		func(c *api.Config) { c.Controls[0].Reg = 65535 },
	} {
		c := usual()
		change(&c)
		wantPrinted(t, c, imageOf(c))
		wantParsed(t, imageOf(c), c)
	}
}

func TestPrintOfAConfigurationThatIsNotValid(t *testing.T) { // P6.3, P0.3
	list := []api.Config{{}}
	for _, b := range breaks() {
		c := usual()
		b.do(&c)
		list = append(list, c)
	}
	long := fullest()
	long.Points = append(long.Points, long.Points[0])
	for _, c := range append(list, long) {
		b, err := Print(c)
		if len(b) > 0 || err == nil {
			t.Errorf("P6.3: Print is % x, %v", b, err)
		}
		wantError(t, "Print", err, fail.Of(Check(c)), fail.Path(Check(c))...)
	}
}

func TestImagesCutOff(t *testing.T) { // P6.3
	for _, c := range valid() {
		b := imageOf(c)
		for n := range 3 {
			wantRefused(t, "an image without its beginning", b[:n], api.ErrForm, image(0))
		}
		offset := 3
		for _, f := range append(fieldsOf(c), field{width: 2}) {
			for n := offset; n < offset+f.width; n++ {
				wantRefused(t, "an image cut off, the rest behind its end", b[:n], api.ErrShort, shortAt(offset)...)
				wantRefused(t, "an image cut off", slices.Clip(b[:n]), api.ErrShort, shortAt(offset)...)
			}
			offset += f.width
		}
		if offset != len(b) {
			t.Fatalf("P6.2: %d bytes of %d", offset, len(b))
		}
	}
}

func TestAnImageCutOffIsNotAskedForItsChecksum(t *testing.T) { // P6.3: no shorter image with a right checksum passes either
	for _, c := range valid() {
		b := imageOf(c)
		for n := 3; n < len(b)-2; n++ {
			if got, err := Parse(summed(b[:n])); err == nil || !equal(got, api.Config{}) {
				t.Errorf("P6.3: %d bytes and a checksum give %+v", n, got)
			}
		}
	}
}

func TestBytesBehindTheChecksum(t *testing.T) { // P6.3
	for _, c := range valid() {
		b := imageOf(c)
		for _, tail := range [][]byte{{0}, {255}, {0, 0}, b, make([]byte, api.MaxImage-len(b))} {
			if len(b)+len(tail) <= api.MaxImage {
				wantRefused(t, "an image with bytes behind it", slices.Concat(b, tail), api.ErrLong, image(len(b)-2))
			}
		}
		wrong := slices.Clone(b)
		wrong[len(b)-1]++
		wantRefused(t, "bytes behind a wrong checksum", append(wrong, 7), api.ErrLong, image(len(b)-2))
		wantRefused(t, "another checksum behind it", summed(slices.Clone(b)), api.ErrLong, image(len(b)-2))
	}
}

func TestImagesThatAreTooLong(t *testing.T) { // P6.3
	b := imageOf(usual())
	for _, length := range []int{4097, 4098, 5000, 70000} {
		wantRefused(t, "a long image", append(slices.Clone(b), make([]byte, length-len(b))...), api.ErrLong, image(0))
		wantRefused(t, "a long image of zeros", make([]byte, length), api.ErrLong, image(0))
	}
	for _, length := range []int{4095, 4096} {
		wantRefused(t, "an image of many bytes", append(slices.Clone(b), make([]byte, length-len(b))...), api.ErrLong, image(len(b)-2))
		wantRefused(t, "an image of many zeros", make([]byte, length), api.ErrForm, image(0))
	}
}

func TestTheFirstThreeBytes(t *testing.T) { // P6.3
	for _, b := range [][]byte{nil, {}, {0x53}, {0x53, 0x59}, {0x59, 0x53, 0x01}, {0}} {
		wantRefused(t, "no beginning", b, api.ErrForm, image(0))
	}
	for _, c := range valid() {
		for i := range 3 {
			for turn := 1; turn < 256; turn++ {
				b := imageOf(c)
				b[i] ^= byte(turn)
				wantRefused(t, "another beginning", b, api.ErrForm, image(0))
				wantRefused(t, "another beginning with a right checksum", summed(b[:len(b)-2]), api.ErrForm, image(0))
				wantRefused(t, "another beginning, cut off", b[:i+1], api.ErrForm, image(0))
			}
		}
	}
	wantRefused(t, "the beginning alone", []byte{0x53, 0x59, 0x01}, api.ErrShort, shortAt(3)...)
}

func TestFlags(t *testing.T) { // P6.3
	for flags := range 256 {
		b := imageOf(usual())
		b[7] = byte(flags)
		cut := slices.Clone(b[:8])
		b = summed(b[:len(b)-2])
		if flags > 1 {
			wantRefused(t, "other flags", b, api.ErrForm, image(7))
			wantRefused(t, "other flags at the end", cut, api.ErrForm, image(7))
			wantRefused(t, "other flags with bytes behind the image", append(slices.Clone(b), 0), api.ErrForm, image(7))
			b[len(b)-1]++
			wantRefused(t, "other flags and a wrong checksum", b, api.ErrForm, image(7))
			continue
		}
		c := usual()
		c.Unsol = flags == 1
		wantParsed(t, b, c)
		wantRefused(t, "flags at the end", cut, api.ErrShort, shortAt(8)...)
	}
	b := imageOf(usual())
	b[7] = 2
	wantRefused(t, "an end ahead of the flags", b[:7], api.ErrShort, shortAt(7)...)
	wantRefused(t, "other flags and too many bytes", append(b, make([]byte, 4096)...), api.ErrLong, image(0))
}

func TestWrongChecksums(t *testing.T) { // P6.3
	for _, c := range valid() {
		b := imageOf(c)
		for i := len(b) - 2; i < len(b); i++ {
			for turn := 1; turn < 256; turn++ {
				wrong := slices.Clone(b)
				wrong[i] ^= byte(turn)
				wantRefused(t, "a wrong checksum", wrong, api.ErrSum, image(len(b)-2))
			}
		}
		wrong := slices.Clone(b)
		wrong[len(b)-2], wrong[len(b)-1] = b[len(b)-1], b[len(b)-2]
		wantRefused(t, "a checksum in the other order", wrong, api.ErrSum, image(len(b)-2))
		wrong = slices.Clone(b)
		wrong[3] ^= 8
		wantRefused(t, "another Own", wrong, api.ErrSum, image(len(b)-2))
		wrong[16], wrong[17] = 0, 0
		wantRefused(t, "a wrong checksum over what is not valid", wrong, api.ErrSum, image(len(b)-2))
	}
}

func TestRightChecksumOverAConfigurationThatIsNotValid(t *testing.T) { // P6.3
	for _, change := range []struct {
		code api.Code
		path []fail.Step
		do   func(c *api.Config)
	}{
		{api.ErrRange, []fail.Step{number(1)}, func(c *api.Config) { c.Own = 65520 }},
		{api.ErrRange, []fail.Step{number(1)}, func(c *api.Config) { c.Own, c.Master = 65535, 65535 }},
		{api.ErrRange, []fail.Step{number(2)}, func(c *api.Config) { c.Master = c.Own }},
		{api.ErrRange, []fail.Step{number(3)}, func(c *api.Config) { c.Reply = 65535 }},
		{api.ErrRange, []fail.Step{number(4)}, func(c *api.Config) { c.Silence = 255 }},
		{api.ErrRange, []fail.Step{number(5)}, func(c *api.Config) { c.Retries = 6 }},
		{api.ErrRange, []fail.Step{number(6)}, func(c *api.Config) { c.Offline = 0 }},
		{api.ErrRange, []fail.Step{number(7)}, func(c *api.Config) { c.Select = 10001 }},
		{api.ErrRange, []fail.Step{number(8)}, func(c *api.Config) { c.Confirm = 0 }},
		{api.ErrRange, []fail.Step{number(9)}, func(c *api.Config) { c.Frag = 248 }},
		{api.ErrRange, []fail.Step{number(10)}, func(c *api.Config) { c.Room[2] = 61 }},
		{api.ErrRange, []fail.Step{number(11)}, func(c *api.Config) { c.Slaves = nil }},
		{api.ErrRange, []fail.Step{number(11), item(2)}, func(c *api.Config) { c.Slaves[2] = 248 }},
		{api.ErrLong, []fail.Step{number(11)}, func(c *api.Config) { c.Slaves = upTo(9) }},
		{api.ErrLong, []fail.Step{number(11)}, func(c *api.Config) { c.Slaves = upTo(255) }},
		{api.ErrRange, []fail.Step{number(12), item(3)}, func(c *api.Config) { c.Polls[3].Start = 65535 }},
		{api.ErrLong, []fail.Step{number(12)}, func(c *api.Config) { c.Polls = make([]api.Poll, 255) }},
		{api.ErrRange, []fail.Step{number(13), item(0)}, func(c *api.Config) { c.Points[0].Num = -32768 }},
		{api.ErrRange, []fail.Step{number(13), item(0)}, func(c *api.Config) { c.Points[0].Off = -1 << 31 }},
		{api.ErrRange, []fail.Step{number(13), item(0)}, func(c *api.Config) { c.Points[0].Dead = 1<<32 - 1 }},
		{api.ErrRange, []fail.Step{number(13), item(0)}, func(c *api.Config) { c.Points[0].Den = 65535 }},
		{api.ErrRange, []fail.Step{number(13), item(8)}, func(c *api.Config) { c.Points[8].Place = 19 }},
		{api.ErrLong, []fail.Step{number(13)}, func(c *api.Config) { c.Points = make([]api.Point, 65) }},
		{api.ErrRange, []fail.Step{number(14), item(1)}, func(c *api.Config) { c.Controls[1].Kind = 255 }},
		{api.ErrLong, []fail.Step{number(14)}, func(c *api.Config) { c.Controls = make([]api.Control, 255) }},
	} {
		c := usual()
		change.do(&c)
		b := imageOf(c)
		wantRefused(t, "an image of what is not valid", b, change.code, change.path...)
		wantRefused(t, "and a byte behind it", append(slices.Clone(b), 0), api.ErrLong, image(len(b)-2))
		b[len(b)-2]++
		wantRefused(t, "and a wrong checksum", b, api.ErrSum, image(len(b)-2))
	}
}

func TestEveryBitOfAnImageCounts(t *testing.T) { // P6.3
	for _, c := range valid() {
		b := imageOf(c)
		for bit := range 8 * len(b) {
			turned := slices.Clone(b)
			turned[bit/8] ^= 1 << (bit % 8)
			if got, err := Parse(turned); err == nil || !equal(got, api.Config{}) {
				t.Errorf("P6.3: with bit %d turned: %+v, %v", bit, got, err)
			}
		}
	}
}

// countOffsets are the places of the numbers of elements in an image.
func countOffsets(c api.Config) []int {
	slaves := 22
	polls := slaves + 1 + len(c.Slaves)
	points := polls + 1 + 7*len(c.Polls)
	controls := points + 1 + 16*len(c.Points)
	return []int{slaves, polls, points, controls}
}

func TestOtherNumbersOfElements(t *testing.T) { // P6.3
	for _, c := range valid() {
		for _, offset := range countOffsets(c) {
			for count := range 256 {
				b := imageOf(c)
				b[offset] = byte(count)
				wantByWords(t, b)
				wantByWords(t, summed(b[:len(b)-2]))
			}
		}
	}
}

// parseByWords is a model of Parse by the words of P6.3: it walks over the widths of the fields alone.
func parseByWords(b []byte) (offset int, code api.Code) {
	if len(b) > 4096 {
		return 0, api.ErrLong
	}
	if len(b) < 3 || b[0] != 0x53 || b[1] != 0x59 || b[2] != 1 {
		return 0, api.ErrForm
	}
	at := 3
	for _, width := range []int{2, 2, 1, 2, 1, 1, 1, 2, 2, 2, 1, 1, 1} {
		if at+width > len(b) {
			return at, api.ErrShort
		}
		if at == 7 && b[7] > 1 {
			return 7, api.ErrForm
		}
		at += width
	}
	for _, widths := range [][]int{{1}, {1, 1, 2, 1, 2}, {1, 1, 1, 1, 4, 2, 2, 4}, {1, 1, 2}} {
		if at+1 > len(b) {
			return at, api.ErrShort
		}
		count := int(b[at])
		at++
		for range count {
			for _, width := range widths {
				if at+width > len(b) {
					return at, api.ErrShort
				}
				at += width
			}
		}
	}
	switch {
	case at+2 > len(b):
		return at, api.ErrShort
	case at+2 < len(b):
		return at, api.ErrLong
	case !bytes.Equal(summed(b[:at]), b):
		return at, api.ErrSum
	}
	return 0, api.OK
}

// wantByWords holds Parse against the model; where the model finds an image, against Check and Print.
func wantByWords(t *testing.T, b []byte) {
	t.Helper()
	offset, code := parseByWords(b)
	c, err := Parse(b)
	switch {
	case code == api.ErrShort:
		wantRefused(t, "bytes", b, code, shortAt(offset)...)
	case code != api.OK:
		wantRefused(t, "bytes", b, code, image(offset))
	case err == nil:
		wantError(t, "what was parsed", Check(c), api.OK)
		wantPrinted(t, c, b)
	case len(fail.Path(err)) == 0 || fail.Path(err)[0].Where != "config" || !equal(c, api.Config{}):
		t.Errorf("P6.3: Parse(% x) is %+v, %v", b, c, err)
	}
}

func TestBytesAtRandom(t *testing.T) { // P6.3, P6.6, P0.1
	random := rand.New(rand.NewSource(64))
	for range 8000 {
		b := imageOf(anyValid(random))
		b = b[:len(b)-2]
		for range random.Intn(4) {
			b[random.Intn(len(b))] = byte(random.Intn(256)) >> random.Intn(8)
		}
		switch random.Intn(4) {
		case 0:
			b = b[:random.Intn(len(b)+1)]
		case 1:
			b = append(b, make([]byte, random.Intn(5000))...)
		}
		if random.Intn(8) > 0 {
			b = summed(b)
		}
		wantByWords(t, b)
	}
}

func FuzzParse(f *testing.F) { // P6.3, P6.6, P0.1
	for _, c := range valid() {
		f.Add(imageOf(c), true)
		f.Add(imageOf(c), false)
	}
	f.Fuzz(func(t *testing.T, b []byte, sum bool) {
		if sum {
			b = summed(b)
		}
		wantByWords(t, b)
	})
}

func TestParsedConfigurationsShareNoMemory(t *testing.T) { // P6.5, P0.4
	for _, want := range valid() {
		b := imageOf(want)
		first, _ := Parse(b)
		second, _ := Parse(b)
		for i := range b {
			b[i] = 0xEE
		}
		if !equal(first, want) {
			t.Error("P6.5: Parse keeps its argument")
		}
		spoil(first)
		if !equal(second, want) {
			t.Error("P6.5: two results of Parse share memory")
		}
		wantParsed(t, imageOf(want), want)
		wantPrinted(t, second, imageOf(want))
	}
}

func TestPrintedImagesShareNoMemory(t *testing.T) { // P6.5, P0.4
	for _, c := range valid() {
		want := imageOf(c)
		first, _ := Print(c)
		second, _ := Print(c)
		kept := clone(c)
		for i := range first[:cap(first)] {
			first[:cap(first)][i] = 0xEE
		}
		if !bytes.Equal(second, want) || !equal(c, kept) {
			t.Error("P6.5: a result of Print shares memory")
		}
		spoil(c)
		if !bytes.Equal(second, want) {
			t.Error("P6.5: Print keeps its argument")
		}
		wantPrinted(t, kept, want)
	}
}

func TestErrorsKeepNothing(t *testing.T) { // P6.5, P0.5: an error does not hang on what is written later
	c := usual()
	c.Slaves[1] = 0
	err := Check(c)
	b := imageOf(c)
	_, parsed := Parse(b)
	c.Slaves[1] = 3
	b[22] = 0
	wantError(t, "Check", err, api.ErrRange, number(11), item(1))
	wantError(t, "Parse", parsed, api.ErrRange, number(11), item(1))
	wantError(t, "Check of the mended one", Check(c), api.OK)
}
