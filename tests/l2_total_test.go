package tests

import (
	"testing"

	"loop.example/g01004/impl"
)

// fractionAnswer holds every kind of result that a function of fractions has.
type fractionAnswer struct {
	fraction impl.Fraction
	number   int
	is       bool
	text     string
	ok       bool
}

// fractionCall is a call with two fractions. Functions with one argument leave the second one out.
type fractionCall struct {
	name   string
	second bool
	call   func(a impl.Fraction, b impl.Fraction) fractionAnswer
}

func fractionCalls() []fractionCall {
	pair := func(name string, call func(a impl.Fraction, b impl.Fraction) (impl.Fraction, bool)) fractionCall {
		return fractionCall{name, true, func(a impl.Fraction, b impl.Fraction) fractionAnswer {
			c, ok := call(a, b)
			return fractionAnswer{fraction: c, ok: ok}
		}}
	}
	return []fractionCall{
		pair("SumOf", impl.SumOf),
		pair("DifferenceOf", impl.DifferenceOf),
		pair("ProductOf", impl.ProductOf),
		pair("QuotientOf", impl.QuotientOf),
		pair("SimplestIn", impl.SimplestIn),
		{"IsLess", true, func(a impl.Fraction, b impl.Fraction) fractionAnswer {
			is, ok := impl.IsLess(a, b)
			return fractionAnswer{is: is, ok: ok}
		}},
		{"IsFraction", false, func(a impl.Fraction, b impl.Fraction) fractionAnswer {
			return fractionAnswer{is: impl.IsFraction(a)}
		}},
		{"FloorAndRest", false, func(a impl.Fraction, b impl.Fraction) fractionAnswer {
			k, rest, ok := impl.FloorAndRest(a)
			return fractionAnswer{fraction: rest, number: k, ok: ok}
		}},
		{"FractionHeight", false, func(a impl.Fraction, b impl.Fraction) fractionAnswer {
			n, ok := impl.FractionHeight(a)
			return fractionAnswer{number: n, ok: ok}
		}},
		{"SquareRootOf", false, func(a impl.Fraction, b impl.Fraction) fractionAnswer {
			root, ok := impl.SquareRootOf(a)
			return fractionAnswer{fraction: root, ok: ok}
		}},
		{"FractionText", false, func(a impl.Fraction, b impl.Fraction) fractionAnswer {
			s, ok := impl.FractionText(a)
			return fractionAnswer{text: s, ok: ok}
		}},
	}
}

func TestInvalidFractionsFail(t *testing.T) {
	check := func(c fractionCall, a impl.Fraction, b impl.Fraction) {
		t.Helper()
		if got := c.call(a, b); got != (fractionAnswer{}) {
			t.Error(c.name, a, b, "->", got)
		}
	}
	for _, c := range fractionCalls() {
		for _, a := range invalidFractions() {
			for _, b := range sampleFractions() {
				check(c, a, b)
				if c.second {
					check(c, b, a)
				}
			}
			for _, b := range invalidFractions() {
				check(c, a, b)
			}
		}
	}
}

func TestFractionCallsKeepNoState(t *testing.T) {
	list := sampleFractions()
	for _, c := range fractionCalls() {
		for i, a := range list {
			b := list[len(list)-1-i]
			first := c.call(a, b)
			c.call(b, a)
			c.call(frac(2, 4), a)
			if again := c.call(a, b); again != first {
				t.Error(c.name, a, b, "differs when it is called again", first, again)
			}
		}
	}
	for range 2 {
		if a, ok := impl.FractionOf(6, -4); a != frac(-3, 2) || !ok {
			t.Error("FractionOf", a, ok)
		}
		if a, ok := impl.FractionOf(6, 0); a != frac(0, 0) || ok {
			t.Error("FractionOf", a, ok)
		}
		if a, ok := impl.ParseFraction("-3/2"); a != frac(-3, 2) || !ok {
			t.Error("ParseFraction", a, ok)
		}
		if a, ok := impl.ParseFraction("-3/1"); a != frac(0, 0) || ok {
			t.Error("ParseFraction", a, ok)
		}
	}
}
