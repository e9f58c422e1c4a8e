package config

import (
	"bytes"

	"switchyard/api"
	"switchyard/crc"
	"switchyard/fail"
	"switchyard/wire"
)

// mark begins every image: two letters, and the number of the format.
const mark = "\x53\x59\x01"

// Print is the image of a valid configuration.
func Print(c api.Config) ([]byte, error) {
	if err := Check(c); err != nil {
		return nil, err
	}
	w := wire.NewWriter()
	w.Bytes([]byte(mark))
	putFields(w, c)
	putList(w, c.Slaves, putSlave)
	putList(w, c.Polls, putPoll)
	putList(w, c.Points, putPoint)
	putList(w, c.Controls, putControl)
	w.U(2, crc.Modbus(w.Out()))
	return w.Out(), nil
}

// The errors of wire are dropped here and below: Check holds every number within the bytes of its field.
func putFields(w *wire.Writer, c api.Config) {
	w.U(2, c.Own)
	w.U(2, c.Master)
	w.U(1, flagsOf(c))
	w.U(2, c.Reply)
	w.U(1, c.Silence)
	w.U(1, c.Retries)
	w.U(1, c.Offline)
	w.U(2, c.Select)
	w.U(2, c.Confirm)
	w.U(2, c.Frag)
	for _, events := range c.Room {
		w.U(1, events)
	}
}

func flagsOf(c api.Config) int {
	if c.Unsol {
		return 1
	}
	return 0
}

func putList[T any](w *wire.Writer, list []T, put func(*wire.Writer, T)) {
	w.U(1, len(list))
	for _, item := range list {
		put(w, item)
	}
}

func putSlave(w *wire.Writer, slave int) { w.U(1, slave) }

func putPoll(w *wire.Writer, p api.Poll) {
	w.U(1, p.Slave)
	w.U(1, p.Func)
	w.U(2, p.Start)
	w.U(1, p.Count)
	w.U(2, p.Every)
}

func putPoint(w *wire.Writer, p api.Point) {
	w.U(1, p.Kind)
	w.U(1, p.Poll)
	w.U(1, p.Place)
	w.U(1, p.Class)
	w.U(4, p.Dead)
	w.I(2, p.Num)
	w.U(2, p.Den)
	w.I(4, p.Off)
}

func putControl(w *wire.Writer, k api.Control) {
	w.U(1, k.Kind)
	w.U(1, k.Slave)
	w.U(2, k.Reg)
}

// Parse is the configuration of an image.
func Parse(b []byte) (api.Config, error) {
	c, err := readImage(b)
	if err == nil {
		err = Check(c)
	}
	if err != nil {
		return api.Config{}, err
	}
	return c, nil
}

// readImage leaves open whether the configuration is valid.
func readImage(b []byte) (api.Config, error) {
	if len(b) > api.MaxImage {
		return api.Config{}, imageFault(0, api.ErrLong)
	}
	if !bytes.HasPrefix(b, []byte(mark)) {
		return api.Config{}, imageFault(0, api.ErrForm)
	}
	r := newReader(b)
	c := r.config()
	return c, r.end(b)
}

func imageFault(offset int, err error) error { return fail.In("image", offset, err) }

// reader keeps the first error, and reads zeros from there on, so that the fields can be read in a row.
type reader struct {
	fields *wire.Reader
	err    error
}

// newReader stands behind the mark, which b must have.
func newReader(b []byte) *reader {
	r := &reader{fields: wire.NewReader(b)}
	r.fields.Bytes(len(mark))
	return r
}

func (r *reader) u(n int) int { return r.number(n, r.fields.U) }

func (r *reader) i(n int) int { return r.number(n, r.fields.I) }

func (r *reader) number(n int, read func(int) (int, error)) int {
	if r.err != nil {
		return 0
	}
	offset := r.fields.Place()
	v, err := read(n)
	r.err = imageFault(offset, err)
	return v
}

// config relies on Go calling what stands in a literal from left to right.
func (r *reader) config() api.Config {
	return api.Config{
		Own: r.u(2), Master: r.u(2), Unsol: r.unsol(),
		Reply: r.u(2), Silence: r.u(1), Retries: r.u(1), Offline: r.u(1),
		Select: r.u(2), Confirm: r.u(2), Frag: r.u(2),
		Room:     [3]int{r.u(1), r.u(1), r.u(1)},
		Slaves:   readList(r, r.slave),
		Polls:    readList(r, r.poll),
		Points:   readList(r, r.point),
		Controls: readList(r, r.control),
	}
}

// unsol refuses other flags at once: they count ahead of an end that comes too early.
func (r *reader) unsol() bool {
	offset := r.fields.Place()
	flags := r.u(1)
	if flags > 1 {
		r.err = imageFault(offset, api.ErrForm)
	}
	return flags == 1
}

func readList[T any](r *reader, item func() T) []T {
	var list []T
	for range r.u(1) {
		list = append(list, item())
	}
	return list
}

func (r *reader) slave() int { return r.u(1) }

func (r *reader) poll() api.Poll {
	return api.Poll{Slave: r.u(1), Func: r.u(1), Start: r.u(2), Count: r.u(1), Every: r.u(2)}
}

func (r *reader) point() api.Point {
	return api.Point{
		Kind: r.u(1), Poll: r.u(1), Place: r.u(1), Class: r.u(1),
		Dead: r.u(4), Num: r.i(2), Den: r.u(2), Off: r.i(4),
	}
}

func (r *reader) control() api.Control {
	return api.Control{Kind: r.u(1), Slave: r.u(1), Reg: r.u(2)}
}

// end reads the checksum, which must be the last of b and that of all bytes ahead of it.
func (r *reader) end(b []byte) error {
	offset := r.fields.Place()
	sum := r.u(2)
	switch {
	case r.err != nil:
		return r.err
	case r.fields.Left() > 0:
		return imageFault(offset, api.ErrLong)
	case sum != crc.Modbus(b[:offset]):
		return imageFault(offset, api.ErrSum)
	}
	return nil
}
