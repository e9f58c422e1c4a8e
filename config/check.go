package config

import (
	"slices"

	"switchyard/api"
	"switchyard/fail"
	"switchyard/scale"
)

// Bounds of the fields and of the elements of the lists.
const (
	maxAddress = 65519 // of a DNP3 station: those above it are reserved or for all
	maxTicks   = 10000 // of a time to wait, and between two polls
	maxSilence = 100
	maxRetries = 5
	maxOffline = 10
	maxSlave   = 247 // as a Modbus address
	maxCount   = 100 // of what a poll reads
	registers  = 65536
	maxClass   = 3
)

// Functions that a poll reads by: the first two read bits, the others registers.
const (
	firstFunc    = 1
	lastBitFunc  = 2
	firstRegFunc = 3
	lastFunc     = 4
)

// Numbers of the lists, behind those of the ten fields.
const (
	slavesNumber = 11 + iota
	pollsNumber
	pointsNumber
	controlsNumber
)

// Check tells the first condition of a valid configuration that does not hold.
func Check(c api.Config) error {
	// Each of them rests on those ahead of it: a point is held against a poll that is valid.
	for _, check := range []func(api.Config) error{checkFields, checkSlaves, checkPolls, checkPoints, checkControls} {
		if err := check(c); err != nil {
			return err
		}
	}
	return nil
}

func checkFields(c api.Config) error {
	for i, holds := range [...]bool{
		isWithin(c.Own, 0, maxAddress),
		isWithin(c.Master, 0, maxAddress) && c.Master != c.Own,
		isWithin(c.Reply, 1, maxTicks),
		isWithin(c.Silence, 1, min(maxSilence, c.Reply)),
		isWithin(c.Retries, 0, maxRetries),
		isWithin(c.Offline, 1, maxOffline),
		isWithin(c.Select, 1, maxTicks),
		isWithin(c.Confirm, 1, maxTicks),
		isWithin(c.Frag, api.MinFrag, api.MaxFrag),
		isRoom(c.Room),
	} {
		if !holds {
			return fault(i+1, api.ErrRange)
		}
	}
	return nil
}

func checkSlaves(c api.Config) error {
	if len(c.Slaves) == 0 {
		return fault(slavesNumber, api.ErrRange)
	}
	return checkList(slavesNumber, len(c.Slaves), api.MaxSlaves, func(i int) bool {
		return isWithin(c.Slaves[i], 1, maxSlave) && !slices.Contains(c.Slaves[:i], c.Slaves[i])
	})
}

func checkPolls(c api.Config) error {
	return checkList(pollsNumber, len(c.Polls), api.MaxPolls, func(i int) bool {
		return isPoll(c.Polls[i], len(c.Slaves))
	})
}

func checkPoints(c api.Config) error {
	return checkList(pointsNumber, len(c.Points), api.MaxPoints, func(i int) bool {
		return isPoint(c.Points[i], c.Polls)
	})
}

func checkControls(c api.Config) error {
	return checkList(controlsNumber, len(c.Controls), api.MaxControls, func(i int) bool {
		return isControl(c.Controls[i], len(c.Slaves))
	})
}

// checkList is what the lists have in common; a list that is too long counts ahead of its elements.
func checkList(number, length, most int, isValid func(i int) bool) error {
	if length > most {
		return fault(number, api.ErrLong)
	}
	for i := range length {
		if !isValid(i) {
			return fault(number, fail.In("item", i, api.ErrRange))
		}
	}
	return nil
}

func fault(number int, err error) error { return fail.In("config", number, err) }

func isRoom(room [3]int) bool {
	for _, events := range room {
		if !isWithin(events, 1, api.MaxEvents) {
			return false
		}
	}
	return true
}

func isPoll(p api.Poll, slaves int) bool {
	return isWithin(p.Slave, 0, slaves-1) && isWithin(p.Func, firstFunc, lastFunc) &&
		isWithin(p.Count, 1, maxCount) && isWithin(p.Start, 0, registers-p.Count) &&
		isWithin(p.Every, 1, maxTicks)
}

func isPoint(p api.Point, polls []api.Poll) bool {
	return isWithin(p.Poll, 0, len(polls)-1) && isWithin(p.Place, 0, polls[p.Poll].Count-1) &&
		isWithin(p.Class, 0, maxClass) && scale.May(p) && isOfKind(p, polls[p.Poll])
}

// isOfKind has the conditions that hang on the kind of a point.
func isOfKind(p api.Point, poll api.Poll) bool {
	switch p.Kind {
	case api.Double:
		// Its second bit stands behind its place.
		if p.Place > poll.Count-2 {
			return false
		}
		fallthrough
	case api.Binary:
		return isWithin(poll.Func, firstFunc, lastBitFunc) && isUnscaled(p)
	case api.Counter:
		if !isUnscaled(p) {
			return false
		}
		fallthrough
	case api.Analog:
		return isWithin(poll.Func, firstRegFunc, lastFunc)
	}
	return false
}

func isUnscaled(p api.Point) bool {
	return p.Num == 1 && p.Den == 1 && p.Off == 0 && p.Dead == 0
}

func isControl(k api.Control, slaves int) bool {
	return (k.Kind == api.BinOut || k.Kind == api.AnaOut) &&
		isWithin(k.Slave, 0, slaves-1) && isWithin(k.Reg, 0, registers-1)
}

func isWithin(n, least, greatest int) bool { return least <= n && n <= greatest }
