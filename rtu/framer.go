package rtu

import (
	"bytes"

	"switchyard/api"
)

const (
	maxSilence = 100
	// maxKept is one byte more than a frame may have, so that Open tells of a longer one that it is too long.
	maxKept = api.MaxADU + 1
)

// Framer collects the bytes of a line until it has been silent for some ticks: they are one frame.
type Framer struct {
	silence   int // the ticks that end a frame
	quiet     int // the ticks since the last byte; it counts only while bytes are collected
	collected []byte
}

// New makes a Framer that has collected nothing.
func New(silence int) (*Framer, error) {
	if silence < 1 || silence > maxSilence {
		return nil, fault(silence, api.ErrRange)
	}
	return &Framer{silence: silence}, nil
}

// Byte takes the next byte of the line; a byte that is not kept breaks the silence as well.
func (f *Framer) Byte(b byte) {
	f.quiet = 0
	if len(f.collected) < maxKept {
		f.collected = append(f.collected, b)
	}
}

// Tick is one more tick without a byte, and tells the frame that it ends, if it does.
func (f *Framer) Tick() ([]byte, bool) {
	if len(f.collected) == 0 {
		return nil, false
	}
	f.quiet++
	if f.quiet < f.silence {
		return nil, false
	}
	frame := f.collected
	f.Drop()
	return frame, true
}

// Drop lets go of the collected memory, which Tick may have handed out.
func (f *Framer) Drop() { f.collected = nil }

// Pending is how many bytes are collected.
func (f *Framer) Pending() int { return len(f.collected) }

// Copy is a Framer of its own in the same state.
func (f *Framer) Copy() *Framer {
	return &Framer{silence: f.silence, quiet: f.quiet, collected: bytes.Clone(f.collected)}
}
