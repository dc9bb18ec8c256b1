package tests

import (
	"slices"
	"testing"

	"loop.example/g01004/impl"
)

// wholeCall is a call with two wholes and a number. Functions with fewer arguments leave some of them out.
type wholeCall struct {
	name   string
	second bool
	call   func(a impl.Whole, b impl.Whole, n int) (impl.Whole, int, string, bool)
}

func wholeCalls() []wholeCall {
	return []wholeCall{
		{"AddWholes", true, func(a impl.Whole, b impl.Whole, n int) (impl.Whole, int, string, bool) {
			c, ok := impl.AddWholes(a, b)
			return c, 0, "", ok
		}},
		{"SubtractWholes", true, func(a impl.Whole, b impl.Whole, n int) (impl.Whole, int, string, bool) {
			c, ok := impl.SubtractWholes(a, b)
			return c, 0, "", ok
		}},
		{"MultiplyWholes", true, func(a impl.Whole, b impl.Whole, n int) (impl.Whole, int, string, bool) {
			c, ok := impl.MultiplyWholes(a, b)
			return c, 0, "", ok
		}},
		{"DivideWhole", false, func(a impl.Whole, b impl.Whole, n int) (impl.Whole, int, string, bool) {
			c, rest, ok := impl.DivideWhole(a, n)
			return c, rest, "", ok
		}},
		{"CompareWholes", true, func(a impl.Whole, b impl.Whole, n int) (impl.Whole, int, string, bool) {
			order, ok := impl.CompareWholes(a, b)
			return impl.Whole{}, order, "", ok
		}},
		{"BitLength", false, func(a impl.Whole, b impl.Whole, n int) (impl.Whole, int, string, bool) {
			k, ok := impl.BitLength(a)
			return impl.Whole{}, k, "", ok
		}},
		{"DivisorWith", false, func(a impl.Whole, b impl.Whole, n int) (impl.Whole, int, string, bool) {
			d, ok := impl.DivisorWith(a, n)
			return impl.Whole{}, d, "", ok
		}},
		{"PowerOfWhole", false, func(a impl.Whole, b impl.Whole, n int) (impl.Whole, int, string, bool) {
			c, ok := impl.PowerOfWhole(a, n)
			return c, 0, "", ok
		}},
		{"WholeText", false, func(a impl.Whole, b impl.Whole, n int) (impl.Whole, int, string, bool) {
			s, ok := impl.WholeText(a)
			return impl.Whole{}, 0, s, ok
		}},
		{"IsWhole", false, func(a impl.Whole, b impl.Whole, n int) (impl.Whole, int, string, bool) {
			return impl.Whole{}, 0, "", impl.IsWhole(a)
		}},
	}
}

// copyOf returns a whole of its own with the same limbs and sentinels behind them.
func copyOf(a impl.Whole) impl.Whole {
	return impl.Whole{Negative: a.Negative, Limbs: withSpare(a.Limbs)}
}

// isUntouched reports whether an argument made by copyOf still is as it was made, with its spare capacity.
func isUntouched(a impl.Whole, before impl.Whole) bool {
	n := len(before.Limbs)
	full := a.Limbs[:n+3]
	return a.Negative == before.Negative && len(a.Limbs) == n && slices.Equal(full[:n], before.Limbs) &&
		slices.Equal(full[n:], []int{sentinel, sentinel, sentinel})
}

func TestInvalidWholesFail(t *testing.T) {
	valid := []impl.Whole{{}, {Limbs: []int{3456, 12}}, {Negative: true, Limbs: []int{1}}}
	check := func(c wholeCall, a impl.Whole, b impl.Whole, n int) {
		t.Helper()
		x, y := copyOf(a), copyOf(b)
		whole, number, text, ok := c.call(x, y, n)
		if ok || !isZeroWhole(whole) || number != 0 || text != "" {
			t.Error(c.name, a, b, n, "->", whole, number, text, ok)
		}
		if !isUntouched(x, a) || !isUntouched(y, b) {
			t.Error(c.name, "changed", a, b)
		}
	}
	for _, c := range wholeCalls() {
		for _, a := range invalidWholes() {
			for _, n := range []int{0, 1, 2, 64} {
				for _, b := range valid {
					check(c, a, b, n)
					if c.second {
						check(c, b, a, n)
					}
				}
				if c.second {
					check(c, a, a, n)
				}
			}
		}
	}
}

func TestArgumentsStayAsTheyAre(t *testing.T) {
	list := sampleWholes(t)
	for _, c := range wholeCalls() {
		for i, a := range list {
			for _, n := range []int{0, 1, 2, 3, 64, 10000, 1000000000000} {
				b := list[(i*7+n)%len(list)]
				x, y := copyOf(a), copyOf(b)
				c.call(x, y, n)
				if !isUntouched(x, a) || !isUntouched(y, b) {
					t.Fatal(c.name, "changed", a, b)
				}
				c.call(x, x, n)
				if !isUntouched(x, a) {
					t.Fatal(c.name, "changed", a, "given twice")
				}
			}
		}
	}
}

func TestResultsShareNoMemory(t *testing.T) {
	list := sampleWholes(t)
	for _, c := range wholeCalls() {
		for i, a := range list {
			for _, n := range []int{0, 1, 2} {
				for _, b := range []impl.Whole{{}, {Limbs: []int{1}}, list[len(list)-1-i]} {
					x, y := copyOf(a), copyOf(b)
					first, _, _, _ := c.call(x, y, n)
					second, _, _, _ := c.call(x, y, n)
					kept := slices.Clone(second.Limbs)
					full := first.Limbs[:cap(first.Limbs)]
					for k := range full {
						full[k] = -5
					}
					if !isUntouched(x, a) || !isUntouched(y, b) || !slices.Equal(kept, second.Limbs) {
						t.Fatal(c.name, a, b, n, "shares memory")
					}
				}
			}
		}
	}
}

func TestNoStateIsKept(t *testing.T) {
	list := sampleWholes(t)
	for _, c := range wholeCalls() {
		for _, a := range list {
			w, m, s, ok := c.call(a, list[1], 3)
			c.call(list[2], a, 5)
			c.call(impl.Whole{Negative: true}, a, -1)
			again, n, text, fine := c.call(a, list[1], 3)
			if w.Negative != again.Negative || !slices.Equal(w.Limbs, again.Limbs) || m != n || s != text || ok != fine {
				t.Fatal(c.name, a, "differs when it is called again")
			}
		}
	}
}

func TestNewWholesAreSeparate(t *testing.T) {
	makers := map[string]func() (impl.Whole, bool){
		"WholeOf":    func() (impl.Whole, bool) { return impl.WholeOf(123456) },
		"ParseWhole": func() (impl.Whole, bool) { return impl.ParseWhole("123456") },
		"power 0":    func() (impl.Whole, bool) { return impl.PowerOfWhole(impl.Whole{}, 0) },
	}
	for name, make := range makers {
		first, _ := make()
		kept := slices.Clone(first.Limbs)
		first.Limbs[0] = -5
		second, ok := make()
		if !ok || !slices.Equal(kept, second.Limbs) {
			t.Error(name, second, ok)
		}
	}
}
