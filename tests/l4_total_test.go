package tests

import (
	"fmt"
	"slices"
	"testing"

	"loop.example/g01004/impl"
)

// cubicCall is a call with a cubic. It returns the results before the last one as a text, which is none if all of them are zero.
type cubicCall struct {
	name string
	call func(f impl.Cubic) (string, bool)
}

// cubicCalls returns the functions of cubics, once for each of some other arguments.
func cubicCalls() []cubicCall {
	list := []cubicCall{
		{"IsCubic", func(f impl.Cubic) (string, bool) { return "", impl.IsCubic(f) }},
		{"CubicDiscriminant", func(f impl.Cubic) (string, bool) {
			n, ok := impl.CubicDiscriminant(f)
			return textUnless(n == 0, n), ok
		}},
		{"RealRootCount", func(f impl.Cubic) (string, bool) {
			n, ok := impl.RealRootCount(f)
			return textUnless(n == 0, n), ok
		}},
		{"RootCells", func(f impl.Cubic) (string, bool) {
			cells, ok := impl.RootCells(f)
			return textUnless(len(cells) == 0, cells), ok
		}},
		{"RationalRoots", func(f impl.Cubic) (string, bool) {
			roots, ok := impl.RationalRoots(f)
			return textUnless(len(roots) == 0, roots), ok
		}},
		{"IsIrreducibleCubic", func(f impl.Cubic) (string, bool) {
			is, ok := impl.IsIrreducibleCubic(f)
			return textUnless(!is, is), ok
		}},
		{"ContentOf", func(f impl.Cubic) (string, bool) {
			n, g, ok := impl.ContentOf(f)
			return textUnless(n == 0 && g == impl.Cubic{}, n, g), ok
		}},
		{"ReverseCubic", func(f impl.Cubic) (string, bool) {
			g, ok := impl.ReverseCubic(f)
			return textUnless(g == impl.Cubic{}, g), ok
		}},
		{"CubicText", impl.CubicText},
	}
	for _, n := range []int{-mostPlace - 1, -mostPlace, -10, -1, 0, 1, 10, mostPlace, mostPlace + 1} {
		list = append(list, cubicCallsAt(n)...)
	}
	return list
}

// cubicCallsAt returns the functions that take a number or a fraction, too.
func cubicCallsAt(n int) []cubicCall {
	return []cubicCall{
		{fmt.Sprint("CubicAt ", n), func(f impl.Cubic) (string, bool) {
			value, ok := impl.CubicAt(f, n)
			return textUnless(value == 0, value), ok
		}},
		{fmt.Sprint("CubicAtFraction ", n), func(f impl.Cubic) (string, bool) {
			sign, ok := impl.CubicAtFraction(f, frac(n, 1))
			return textUnless(sign == 0, sign), ok
		}},
		{fmt.Sprint("FactorOut ", n), func(f impl.Cubic) (string, bool) {
			a, b, c, ok := impl.FactorOut(f, frac(n, 1))
			return textUnless(a == 0 && b == 0 && c == 0, a, b, c), ok
		}},
		{fmt.Sprint("ShiftCubic ", n), func(f impl.Cubic) (string, bool) {
			g, ok := impl.ShiftCubic(f, n)
			return textUnless(g == impl.Cubic{}, g), ok
		}},
	}
}

// textUnless returns the text of results that are not all zero.
func textUnless(isZero bool, results ...any) string {
	if isZero {
		return ""
	}
	return fmt.Sprint(results...)
}

func TestInvalidCubicsFail(t *testing.T) {
	for _, c := range cubicCalls() {
		for _, f := range invalidCubics() {
			if text, ok := c.call(f); text != "" || ok {
				t.Errorf("%s of %v: got %q, %v", c.name, f, text, ok)
			}
		}
	}
}

func TestInvalidCubicsFailWithAnyFraction(t *testing.T) {
	for _, f := range invalidCubics() {
		for _, r := range append(invalidFractions(), sampleRoots()...) {
			got, ok := impl.CubicAtFraction(f, r)
			checkNumber(t, got, ok, 0, false, f, r)
			checkNoFactor(t, f, r)
		}
	}
}

func TestInvalidFractionsFailWithAnyCubic(t *testing.T) {
	for _, f := range append(greatCubics(), invalidCubics()...) {
		for _, r := range invalidFractions() {
			got, ok := impl.CubicAtFraction(f, r)
			checkNumber(t, got, ok, 0, false, f, r)
			checkNoFactor(t, f, r)
		}
	}
}

func TestCubicCallsKeepNoState(t *testing.T) {
	list := append(greatCubics(), invalidCubics()...)
	for _, c := range cubicCalls() {
		for i, f := range list {
			text, ok := c.call(f)
			c.call(list[len(list)-1-i])
			c.call(cubicOf(0, 1, 2, 3))
			if again, fine := c.call(f); again != text || fine != ok {
				t.Errorf("%s of %v differs when it is called again: %q, %q", c.name, f, text, again)
			}
		}
	}
}

func TestListsOfCellsShareNoMemory(t *testing.T) {
	f := cubicOf(2, -3, -3, 2)
	want := []int{-1, 0, 2}
	changed, _ := impl.RootCells(f)
	kept, _ := impl.RootCells(f)
	overwrite(changed)
	if !slices.Equal(kept, want) {
		t.Error("an older list has changed", kept)
	}
	checkCells(t, f, want...)
}

func TestListsOfRootsShareNoMemory(t *testing.T) {
	f := cubicOf(2, -3, -3, 2)
	want := []impl.Fraction{frac(-1, 1), frac(1, 2), frac(2, 1)}
	changed, _ := impl.RationalRoots(f)
	kept, _ := impl.RationalRoots(f)
	changed = changed[:cap(changed)]
	for i := range changed {
		changed[i] = frac(sentinel, sentinel)
	}
	if !slices.Equal(kept, want) {
		t.Error("an older list has changed", kept)
	}
	checkRoots(t, f, want...)
}
