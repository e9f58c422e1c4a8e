package outside

import (
	"math"
	"slices"
	"testing"

	"switchyard/pdu"
)

func TestNewIsZero(t *testing.T) { // P11.1
	for _, address := range []int{1, 0, 255, -1, 256, math.MinInt, math.MaxInt} {
		s := New(address)
		if s == nil {
			t.Fatalf("P11.1: New(%d) is nil", address)
		}
		wantOnly(t, "P11.1: New", s, nil)
		wantWrites(t, "New", s)
	}
}

func TestSetAtTheEdges(t *testing.T) { // P11.1
	for _, c := range []struct {
		table, at, v int
		ok           bool
	}{
		{0, 0, 0, false}, {1, 0, 0, true}, {2, 0, 0, true}, {3, 0, 0, true}, {4, 0, 0, true}, {5, 0, 0, false},
		{1, -1, 1, false}, {1, 0, 1, true}, {1, 65535, 1, true}, {1, 65536, 1, false},
		{2, -1, 1, false}, {2, 0, 1, true}, {2, 65535, 1, true}, {2, 65536, 1, false},
		{3, -1, 1, false}, {3, 0, 1, true}, {3, 65535, 1, true}, {3, 65536, 1, false},
		{4, -1, 1, false}, {4, 0, 1, true}, {4, 65535, 1, true}, {4, 65536, 1, false},
		{1, 7, -1, false}, {1, 7, 0, true}, {1, 7, 1, true}, {1, 7, 2, false},
		{2, 7, -1, false}, {2, 7, 0, true}, {2, 7, 1, true}, {2, 7, 2, false},
		{3, 7, -1, false}, {3, 7, 0, true}, {3, 7, 65535, true}, {3, 7, 65536, false},
		{4, 7, -1, false}, {4, 7, 0, true}, {4, 7, 65535, true}, {4, 7, 65536, false},
	} {
		s := New(1)
		if s.Set(c.table, c.at, c.v) != c.ok {
			t.Errorf("P11.1: Set(%d, %d, %d) is %t", c.table, c.at, c.v, !c.ok)
		}
		want := 0
		if c.ok {
			want = c.v
		}
		if v := s.Get(c.table, c.at); v != want {
			t.Errorf("P11.1: Get(%d, %d) behind Set of %d is %d", c.table, c.at, c.v, v)
		}
	}
}

// setOrRefused calls Set, and compares it and what Get gives afterwards with the words of the chapter.
func setOrRefused(t *testing.T, s *Slave, table, at, v int) {
	t.Helper()
	top, isTable := tops()[table]
	ok := isTable && at >= 0 && at <= 65535 && v >= 0 && v <= top
	want := s.Get(table, at)
	if ok {
		want = v
	}
	if s.Set(table, at, v) != ok {
		t.Fatalf("P11.1: Set(%d, %d, %d) is %t", table, at, v, !ok)
	}
	if got := s.Get(table, at); got != want {
		t.Fatalf("P11.1: Get(%d, %d) is %d behind Set of %d, not %d", table, at, got, v, want)
	}
}

func TestSetOfAllKinds(t *testing.T) { // P11.1
	tables := append([]int{1, 2, 3, 4}, noTables...)
	places := slices.Concat(somePlaces, noPlaces)
	for _, s := range []*Slave{New(1), filled(t, 1)} {
		for _, table := range tables {
			for _, at := range places {
				for _, v := range someNumbers {
					setOrRefused(t, s, table, at, v)
				}
			}
		}
	}
}

func TestSetChangesOneNumber(t *testing.T) { // P11.1
	for table := 1; table <= 4; table++ {
		for _, at := range somePlaces {
			s := New(1)
			named := map[[2]int]int{{table, at}: tops()[table]}
			set(t, s, table, at, tops()[table])
			wantOnly(t, "P11.1: Set", s, named)
			set(t, s, table, at, 0)
			wantOnly(t, "P11.1: Set of 0", s, nil)
		}
	}
}

func TestRefusedSetChangesNothing(t *testing.T) { // P11.1
	for _, full := range []bool{false, true} {
		s, want := New(1), func(int, int) int { return 0 }
		if full {
			s, want = filled(t, 1), fillOf
		}
		refused := 0
		for _, table := range append([]int{1, 2, 3, 4}, noTables...) {
			for _, at := range slices.Concat(somePlaces, noPlaces) {
				for _, v := range someNumbers {
					top, isTable := tops()[table]
					if isTable && !slices.Contains(noPlaces, at) && v >= 0 && v <= top {
						continue
					}
					if s.Set(table, at, v) {
						t.Fatalf("P11.1: Set(%d, %d, %d) is true", table, at, v)
					}
					refused++
				}
			}
		}
		if refused < 1000 {
			t.Fatalf("only %d were refused", refused)
		}
		wantAll(t, "P11.1: a refused Set", s, want)
		wantWrites(t, "Set", s)
	}
}

func TestEveryPlaceOfEveryTable(t *testing.T) { // P11.1, P11.4
	s := filled(t, 1)
	wantAll(t, "P11.1: Set", s, fillOf)
	wantWrites(t, "Set is no write", s)
	for table := 1; table <= 4; table++ {
		for at := range 65536 {
			set(t, s, table, at, 0)
		}
	}
	wantOnly(t, "P11.1: Set of 0", s, nil)
}

func TestEveryNumberOfATable(t *testing.T) { // P11.1
	s := New(1)
	for table, top := range tops() {
		for v := range top + 1 {
			set(t, s, table, 77, v)
			if got := s.Get(table, 77); got != v {
				t.Fatalf("P11.1: Get(%d, 77) is %d, not %d", table, got, v)
			}
		}
	}
	wantOnly(t, "P11.1: Set", s, map[[2]int]int{{1, 77}: 1, {2, 77}: 1, {3, 77}: 65535, {4, 77}: 65535})
}

func TestGetOfNothing(t *testing.T) { // P11.1
	for _, s := range []*Slave{New(1), filled(t, 1)} {
		for _, table := range noTables {
			for _, at := range slices.Concat(somePlaces, noPlaces) {
				if v := s.Get(table, at); v != 0 {
					t.Errorf("P11.1: Get(%d, %d) is %d", table, at, v)
				}
			}
		}
		for table := 1; table <= 4; table++ {
			for _, at := range noPlaces {
				if v := s.Get(table, at); v != 0 {
					t.Errorf("P11.1: Get(%d, %d) is %d", table, at, v)
				}
			}
		}
	}
}

func TestSetOfTheSameAgain(t *testing.T) { // P11.1
	s := New(1)
	for _, v := range []int{5, 5, 0, 0, 65535, 1, 0, 9} {
		set(t, s, 3, 4, v)
		if got := s.Get(3, 4); got != v {
			t.Errorf("P11.1: Get is %d, not %d", got, v)
		}
	}
}

// worn is a slave with numbers in all tables, and with writes of all functions.
func worn(t *testing.T) (*Slave, []pdu.Request) {
	t.Helper()
	s := New(9)
	set(t, s, 1, 0, 1)
	set(t, s, 2, 65535, 1)
	set(t, s, 3, 0, 300)
	set(t, s, 4, 8, 400)
	list := []pdu.Request{
		{Func: 15, Start: 3, Count: 2, Values: []int{1, 1}},
		{Func: 5, Start: 65535, Count: 1, Values: []int{1}},
		{Func: 16, Start: 10, Count: 2, Values: []int{21, 22}},
		{Func: 6, Start: 65535, Count: 1, Values: []int{23}},
	}
	for _, r := range list {
		if _, ok := s.Take(framed(9, writing(r)...)); !ok {
			t.Fatalf("P11.2: no answer to %+v", r)
		}
	}
	return s, list
}

// wornNumbers are the numbers of such a slave.
func wornNumbers() map[[2]int]int {
	return map[[2]int]int{
		{1, 0}: 1, {1, 3}: 1, {1, 4}: 1, {1, 65535}: 1, {2, 65535}: 1,
		{3, 0}: 300, {3, 10}: 21, {3, 11}: 22, {3, 65535}: 23, {4, 8}: 400,
	}
}

// change changes what a worn slave has: a number in each table, to 0 and from it, and the writes.
func change(t *testing.T, s *Slave) {
	t.Helper()
	set(t, s, 1, 0, 0)
	set(t, s, 2, 5, 1)
	set(t, s, 3, 0, 301)
	set(t, s, 4, 8, 0)
	wantAnswer(t, s, 9, fromHex(t, "06 00 0A 00 63"), fromHex(t, "06 00 0A 00 63"))
	wantAnswer(t, s, 9, fromHex(t, "0F 00 03 00 02 01 00"), fromHex(t, "0F 00 03 00 02"))
}

// wantChanged asks for a worn slave that was changed.
func wantChanged(t *testing.T, what string, s *Slave, list []pdu.Request) {
	t.Helper()
	wantOnly(t, what, s, map[[2]int]int{
		{1, 65535}: 1, {2, 5}: 1, {2, 65535}: 1,
		{3, 0}: 301, {3, 10}: 99, {3, 11}: 22, {3, 65535}: 23,
	})
	wantWrites(t, what, s, append(slices.Clone(list),
		pdu.Request{Func: 6, Start: 10, Count: 1, Values: []int{99}},
		pdu.Request{Func: 15, Start: 3, Count: 2, Values: []int{0, 0}})...)
}

func TestCopyGoesItsOwnWay(t *testing.T) { // P11.2
	s, list := worn(t)
	o := s.Copy()
	wantOnly(t, "P11.2: Copy", o, wornNumbers())
	wantWrites(t, "Copy", o, list...)
	change(t, o)
	wantOnly(t, "P11.2: what was copied", s, wornNumbers())
	wantWrites(t, "what was copied", s, list...)
	wantChanged(t, "P11.2: a changed copy", o, list)
}

func TestWhatWasCopiedGoesItsOwnWay(t *testing.T) { // P11.2
	s, list := worn(t)
	o := s.Copy()
	change(t, s)
	wantOnly(t, "P11.2: Copy", o, wornNumbers())
	wantWrites(t, "Copy", o, list...)
	wantChanged(t, "P11.2: what was copied", s, list)
}

func TestCopiesOfAllAges(t *testing.T) { // P11.2
	// Each of two copies, and what they are from, has a write of its own at the same place of the list: none is to be seen in another.
	s := New(9)
	for n := range 40 {
		list := s.Writes()
		slaves := []*Slave{s.Copy(), s.Copy(), s}
		for i, each := range slaves {
			wantAnswer(t, each, 9, []byte{6, 0, byte(n), 0, byte(i + 1)}, []byte{6, 0, byte(n), 0, byte(i + 1)})
		}
		for i, each := range slaves {
			if v := each.Get(3, n); v != i+1 {
				t.Fatalf("P11.2: Get(3, %d) of the slave %d is %d", n, i, v)
			}
			wantWrites(t, "copies", each, append(slices.Clone(list), pdu.Request{Func: 6, Start: n, Count: 1, Values: []int{i + 1}})...)
		}
	}
}

func TestCopyOfANewSlave(t *testing.T) { // P11.1, P11.2
	s := New(200)
	o := s.Copy()
	wantOnly(t, "P11.2: Copy", o, nil)
	wantWrites(t, "Copy", o)
	set(t, o, 4, 4, 4)
	wantAnswer(t, o, 200, fromHex(t, "04 00 04 00 01"), fromHex(t, "04 02 00 04"))
	wantOnly(t, "P11.2: what was copied", s, nil)
	set(t, s, 4, 5, 5)
	wantOnly(t, "P11.2: Copy", o, map[[2]int]int{{4, 4}: 4})
	// The copy has the address as well.
	wantSilence(t, "another address", o, framed(201, 4, 0, 4, 0, 1))
}

func TestTwoSlavesSideBySide(t *testing.T) { // P0.5, P11.2
	a, b := New(1), New(2)
	set(t, a, 3, 0, 11)
	set(t, b, 3, 0, 12)
	wantAnswer(t, a, 1, fromHex(t, "03 00 00 00 01"), fromHex(t, "03 02 00 0B"))
	wantAnswer(t, b, 2, fromHex(t, "03 00 00 00 01"), fromHex(t, "03 02 00 0C"))
	frame := framed(2, fromHex(t, "05 00 07 FF 00")...)
	wantSilence(t, "the other slave", a, frame)
	if answer, ok := b.Take(frame); !ok || !slices.Equal(answer, frame) {
		t.Errorf("P11.2: Take is % x, %t", answer, ok)
	}
	wantOnly(t, "P11.2: the slave that was not asked", a, map[[2]int]int{{3, 0}: 11})
	wantOnly(t, "P11.2: the slave that was asked", b, map[[2]int]int{{3, 0}: 12, {1, 7}: 1})
	wantWrites(t, "the slave that was not asked", a)
	wantWrites(t, "the slave that was asked", b, pdu.Request{Func: 5, Start: 7, Count: 1, Values: []int{1}})
	// Nor do two of one address know of each other.
	c, d := New(3), New(3)
	wantAnswer(t, c, 3, fromHex(t, "06 00 00 00 01"), fromHex(t, "06 00 00 00 01"))
	wantOnly(t, "P11.2: one of the same address", d, nil)
	wantWrites(t, "one of the same address", d)
}
