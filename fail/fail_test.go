package fail

import (
	"errors"
	"fmt"
	"math"
	"slices"
	"strconv"
	"strings"
	"testing"

	"switchyard/api"
)

// deepest is how far the document's limits let errors be nested.
const deepest = 1 << 16

// between is an error of another type that wraps one.
type between struct{ err error }

func (b between) Error() string { return "between " + b.err.Error() }
func (b between) Unwrap() error { return b.err }

// listed is an error of a type that can't be compared.
type listed []error

func (l listed) Error() string   { return "listed" }
func (l listed) Unwrap() []error { return l }

// posing is an error that gives itself out as a code and as a Fail by methods of its own.
type posing struct {
	code api.Code
	fail *Fail
}

func (p posing) Error() string { return "posing" }

func (p posing) Is(target error) bool { return target == error(p.code) }

func (p posing) As(target any) bool {
	switch t := target.(type) {
	case *api.Code:
		*t = p.code
		return true
	case **Fail:
		*t = p.fail
		return true
	}
	return false
}

// Errors whose methods panic.
type (
	badText   struct{}
	badUnwrap struct{}
	badAs     struct{}
	badIs     struct{}
)

func (badText) Error() string      { panic("Error") }
func (badUnwrap) Error() string    { return "bad" }
func (badUnwrap) Unwrap() error    { panic("Unwrap") }
func (badAs) Error() string        { return "bad" }
func (badAs) As(target any) bool   { panic("As") }
func (badIs) Error() string        { return "bad" }
func (badIs) Is(target error) bool { panic("Is") }

func TestInOfNil(t *testing.T) {
	for _, where := range []string{"", "a", "config"} {
		for _, place := range []int{math.MinInt, -1, 0, 1, math.MaxInt} {
			if err := In(where, place, nil); err != nil {
				t.Errorf("P1.1: In(%q, %d, nil) is %v", where, place, err)
			}
		}
	}
}

func TestInKeepsItsThreeValues(t *testing.T) {
	var noFail *Fail
	for _, err := range []error{api.OK, api.ErrShort, errors.New("x"), In("b", 2, api.ErrSum), between{api.ErrLong}, noFail} {
		for _, where := range []string{"", "a", "two words: \x00\xff"} {
			for _, place := range []int{math.MinInt, -3, 0, 7, math.MaxInt} {
				f, ok := In(where, place, err).(*Fail)
				if !ok || f.Where != where || f.Place != place || f.Err != err {
					t.Errorf("P1.1: In(%q, %d, %T) is %+v", where, place, err, f)
				}
			}
		}
	}
}

func TestInMakesANewFailEachTime(t *testing.T) {
	first := In("a", 1, api.ErrSum).(*Fail)
	second := In("a", 1, api.ErrSum).(*Fail)
	first.Where = "changed"
	if first == second || second.Where != "a" {
		t.Error("P1.1: two calls gave one Fail")
	}
}

func TestUnwrap(t *testing.T) {
	own := errors.New("x")
	inner := In("b", 2, own)
	for _, err := range []error{nil, api.OK, api.ErrSum, own, inner} {
		if got := (&Fail{Where: "a", Place: 1, Err: err}).Unwrap(); got != err {
			t.Errorf("P1.1: Unwrap gives %v, not %v", got, err)
		}
	}
	if errors.Unwrap(inner) != own {
		t.Error("P1.1: errors.Unwrap does not give Err")
	}
}

func TestError(t *testing.T) {
	for _, c := range []struct {
		err  error
		want string
	}{
		{&Fail{Where: "x", Place: 5}, "x 5"},
		{&Fail{}, " 0"},
		{&Fail{Where: "x", Place: -12}, "x -12"},
		{&Fail{Where: "x", Place: math.MinInt}, "x -9223372036854775808"},
		{&Fail{Where: "x", Place: math.MaxInt}, "x 9223372036854775807"},
		{In("wire", 3, api.ErrShort), "wire 3: code 2"},
		{In("wire", 3, api.OK), "wire 3: code 0"},
		{In("wire", 0, api.Code(-4)), "wire 0: code -4"},
		{In("", 0, errors.New("")), " 0: "},
		{In("a: b", 1, errors.New("x\ny")), "a: b 1: x\ny"},
		{In("config", 2, In("wire", -3, api.ErrShort)), "config 2: wire -3: code 2"},
		{In("a", 1, In("b", 2, &Fail{Where: "c", Place: 3})), "a 1: b 2: c 3"},
		{In("a", 1, between{In("b", 2, api.ErrSum)}), "a 1: between b 2: code 5"},
		{In("a", 1, fmt.Errorf("y <%w>", In("b", 2, between{api.ErrSum}))), "a 1: y <b 2: between code 5>"},
		{In("a", 1, errors.Join(In("b", 2, api.ErrSum), api.ErrForm)), "a 1: b 2: code 5\ncode 4"},
		{In("a", 1, listed{In("b", 2, api.ErrSum)}), "a 1: listed"},
		{In("a", 1, posing{fail: &Fail{Where: "b", Place: 2}}), "a 1: posing"},
	} {
		if got := c.err.Error(); got != c.want {
			t.Errorf("P1.1: Error gives %q, not %q", got, c.want)
		}
	}
}

func TestOf(t *testing.T) {
	byPointer := api.ErrSum
	for _, c := range []struct {
		err  error
		want api.Code
	}{
		{nil, api.OK},
		{api.OK, api.OK},
		{api.ErrShort, api.ErrShort},
		{api.ErrOther, api.ErrOther},
		{api.Code(99), 99},
		{api.Code(math.MinInt), math.MinInt},
		{In("wire", 3, api.ErrShort), api.ErrShort},
		{In("wire", 3, api.OK), api.OK},
		{errors.New("x"), api.ErrOther},
		{errors.New("code 2"), api.ErrOther},
		{In("a", 1, errors.New("x")), api.ErrOther},
		{&Fail{Where: "q", Place: 7}, api.ErrOther},
		{In("a", 1, &Fail{}), api.ErrOther},
		{between{In("a", 1, between{api.ErrFull})}, api.ErrFull},
		{errors.Join(api.ErrSum, api.ErrForm), api.ErrSum},
		{errors.Join(errors.New("x"), In("a", 1, api.ErrLong), api.ErrForm), api.ErrLong},
		{listed{}, api.ErrOther},
		{listed{nil, api.ErrKind}, api.ErrKind},
		{posing{code: api.ErrState}, api.ErrState},
		{&byPointer, api.ErrOther},
	} {
		if got := Of(c.err); got != c.want {
			t.Errorf("P1.2: Of(%v) is %d, not %d", c.err, got, c.want)
		}
	}
}

func TestIs(t *testing.T) {
	twice := In("a", 1, In("b", 2, api.ErrSum))
	joined := errors.Join(api.ErrSum, In("a", 1, api.ErrForm))
	for _, c := range []struct {
		err  error
		code api.Code
		want bool
	}{
		{nil, api.OK, true},
		{nil, api.ErrSum, false},
		{nil, api.ErrOther, false},
		{nil, api.Code(-1), false},
		{api.OK, api.OK, true},
		{api.OK, api.ErrSum, false},
		{api.ErrSum, api.OK, false},
		{api.ErrSum, api.ErrSum, true},
		{api.Code(99), 99, true},
		{twice, api.ErrSum, true},
		{twice, api.ErrForm, false},
		{twice, api.OK, false},
		{between{twice}, api.ErrSum, true},
		{joined, api.ErrSum, true},
		{joined, api.ErrForm, true},
		{joined, api.ErrLong, false},
		{listed{api.ErrKind}, api.ErrKind, true},
		{posing{code: api.ErrState}, api.ErrState, true},
		{errors.New("x"), api.ErrOther, false},
		{errors.New("x"), api.OK, false},
		{&Fail{Where: "q"}, api.ErrOther, false},
		{&Fail{Where: "q"}, api.OK, false},
	} {
		if got := Is(c.err, c.code); got != c.want {
			t.Errorf("P1.3: Is(%v, %d) is %t", c.err, c.code, got)
		}
	}
}

func TestPathAndText(t *testing.T) {
	for _, c := range []struct {
		err  error
		path []Step
		text string
	}{
		{nil, nil, ""},
		{api.OK, nil, "code 0"},
		{api.ErrShort, nil, "code 2"},
		{api.Code(-4), nil, "code -4"},
		{errors.New("x"), nil, "code 10"},
		{In("wire", 3, api.ErrShort), []Step{{"wire", 3}}, "wire 3: code 2"},
		{In("wire", 3, errors.New("x")), []Step{{"wire", 3}}, "wire 3: code 10"},
		{In("config", 2, In("wire", 3, api.ErrShort)), []Step{{"config", 2}, {"wire", 3}}, "config 2: wire 3: code 2"},
		{In("a", -1, In("", math.MinInt, api.OK)), []Step{{"a", -1}, {"", math.MinInt}}, "a -1:  -9223372036854775808: code 0"},
		{In("a", 1, In("a", 1, api.ErrSum)), []Step{{"a", 1}, {"a", 1}}, "a 1: a 1: code 5"},
		{&Fail{}, []Step{{"", 0}}, " 0: code 10"},
		{&Fail{Where: "q", Place: 7}, []Step{{"q", 7}}, "q 7: code 10"},
		{In("a", 1, &Fail{Where: "q", Place: 7}), []Step{{"a", 1}, {"q", 7}}, "a 1: q 7: code 10"},
		{between{between{In("a", 1, between{In("b", 2, api.ErrSum)})}}, []Step{{"a", 1}, {"b", 2}}, "a 1: b 2: code 5"},
		{fmt.Errorf("y: %w", In("a", 1, fmt.Errorf("z: %w", In("b", 2, between{api.ErrSum})))), []Step{{"a", 1}, {"b", 2}}, "a 1: b 2: code 5"},
		{errors.Join(errors.New("x"), In("a", 1, api.ErrLong), In("b", 2, api.ErrForm)), []Step{{"a", 1}}, "a 1: code 3"},
		{errors.Join(In("a", 1, errors.New("x")), In("b", 2, api.ErrForm)), []Step{{"a", 1}}, "a 1: code 4"},
		{listed{In("a", 1, listed{api.ErrKind})}, []Step{{"a", 1}}, "a 1: code 6"},
		{posing{code: api.ErrState, fail: &Fail{Where: "b", Place: 2, Err: In("c", 3, api.ErrSum)}}, []Step{{"b", 2}, {"c", 3}}, "b 2: c 3: code 8"},
		{posing{code: api.ErrState}, nil, "code 8"},
	} {
		if got := Path(c.err); !slices.Equal(got, c.path) {
			t.Errorf("P1.3: Path(%v) is %v, not %v", c.err, got, c.path)
		}
		if got := Text(c.err); got != c.text {
			t.Errorf("P1.3: Text(%v) is %q, not %q", c.err, got, c.text)
		}
	}
}

func TestArgumentsStayAsTheyWere(t *testing.T) {
	inner := &Fail{Where: "b", Place: 2, Err: api.ErrSum}
	middle := &Fail{Where: "m", Place: 3, Err: between{inner}}
	outer := In("a", 1, middle).(*Fail)
	_, _, _, _, _ = Of(outer), Is(outer, api.ErrSum), Path(outer), Text(outer), outer.Error()
	if *inner != (Fail{"b", 2, api.ErrSum}) || *middle != (Fail{"m", 3, between{inner}}) || *outer != (Fail{"a", 1, middle}) {
		t.Errorf("P1.4: %+v, %+v, %+v", *outer, *middle, *inner)
	}
}

func TestAFailRetainsErrAndNothingElseIsRetained(t *testing.T) {
	inner := &Fail{Where: "b", Place: 2, Err: api.ErrSum}
	outer := In("a", 1, inner)
	_, _, _ = Path(outer), Text(outer), outer.Error()
	inner.Where, inner.Place, inner.Err = "c", 3, api.ErrForm
	if Text(outer) != "a 1: c 3: code 4" || outer.Error() != "a 1: c 3: code 4" || Of(outer) != api.ErrForm {
		t.Errorf("P1.4: %q, %q", Text(outer), outer.Error())
	}
}

func TestPathsShareNoMemory(t *testing.T) {
	err := In("a", 1, In("b", 2, In("c", 3, api.ErrSum)))
	want := []Step{{"a", 1}, {"b", 2}, {"c", 3}}
	first, second := Path(err), Path(err)
	spare := first[:cap(first)]
	for i := range spare {
		spare[i] = Step{"changed", -1}
	}
	if !slices.Equal(second, want) || !slices.Equal(Path(err), want) {
		t.Errorf("P1.4, P0.4: %v, %v", second, Path(err))
	}
}

func TestWrappingKeepsTheCode(t *testing.T) {
	for code := api.OK; code <= api.ErrOther; code++ {
		var err error = code
		var path []Step
		for n := range 40 {
			step := Step{Where: "w" + strconv.Itoa(n%3), Place: n - 20}
			err = In(step.Where, step.Place, err)
			path = slices.Insert(path, 0, step)
			checkWrapped(t, err, code, path)
		}
	}
}

func checkWrapped(t *testing.T, err error, code api.Code, path []Step) {
	t.Helper()
	var outermost *Fail
	if !errors.As(err, &outermost) || error(outermost) != err {
		t.Fatalf("P1.5: errors.As finds %+v in %v", outermost, err)
	}
	if !errors.Is(err, code) || !Is(err, code) || Of(err) != code {
		t.Fatalf("P1.5: the code of %v is %d, not %d", err, Of(err), code)
	}
	if got := Path(err); !slices.Equal(got, path) {
		t.Fatalf("P1.5: Path(%v) is %v, not %v", err, got, path)
	}
}

func TestWrappingKeepsAnErrorWithoutACode(t *testing.T) {
	own := errors.New("x")
	err := In("a", 1, In("b", 2, own))
	if !errors.Is(err, own) || Of(err) != api.ErrOther || Of(own) != api.ErrOther {
		t.Errorf("P1.5: %v has the code %d", err, Of(err))
	}
}

func TestDeepestNesting(t *testing.T) {
	var err error = api.ErrSum
	var words strings.Builder
	for n := range deepest {
		err = In("w", n, err)
		words.WriteString("w " + strconv.Itoa(deepest-1-n) + ": ")
	}
	words.WriteString("code 5")
	if Of(err) != api.ErrSum || !Is(err, api.ErrSum) || len(Path(err)) != deepest {
		t.Error("P1.5: the deepest nesting loses its code or a step")
	}
	if Text(err) != words.String() || err.Error() != words.String() {
		t.Error("P1.1, P1.3: the text of the deepest nesting")
	}
}

func TestPanicsOfOtherErrorsStayInside(t *testing.T) {
	var noFail *Fail
	for _, c := range []struct {
		err   error
		words string
	}{
		{err: badText{}, words: "a 1"},
		{err: badUnwrap{}, words: "a 1: bad"},
		{err: badAs{}, words: "a 1: bad"},
		{err: badIs{}, words: "a 1: bad"},
		{err: noFail, words: "a 1"},
	} {
		err := In("a", 1, c.err)
		if got := err.Error(); got != c.words {
			t.Errorf("P0.1: Error of a Fail of %T gives %q, not %q", c.err, got, c.words)
		}
		if Of(err) != api.ErrOther || Is(err, api.ErrSum) || Text(err) != "a 1: code 10" || !slices.Equal(Path(err), []Step{{"a", 1}}) {
			t.Errorf("P0.1: a Fail of %T: %d, %t, %q, %v", c.err, Of(err), Is(err, api.ErrSum), Text(err), Path(err))
		}
	}
}
