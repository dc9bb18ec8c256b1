package tests

import (
	"fmt"
	"math"
	"strconv"
	"strings"
	"testing"

	"loop.example/g01004/impl"
)

// textOf returns the text that a point should have.
func textOf(p impl.Point) string {
	if p == infinity {
		return "O"
	}
	return "(" + exact(p).x.RatString() + "," + exact(p).y.RatString() + ")"
}

// textsOf returns the points of a curve by their texts.
func textsOf(c pointedCurve) map[string]impl.Point {
	texts := map[string]impl.Point{}
	for _, p := range c.points {
		texts[textOf(p)] = p
	}
	return texts
}

// checkPointText checks that a text is read, as the right point, just if it is one of the texts of the points of a curve.
func checkPointText(t *testing.T, c impl.Curve, texts map[string]impl.Point, s string) {
	t.Helper()
	want, fine := texts[s]
	got, ok := impl.ParsePoint(c, s)
	if got != want || ok != fine {
		t.Errorf("%q on %v: got %v, %v, want %v, %v", s, c, got, ok, want, fine)
	}
}

func TestPointTexts(t *testing.T) {
	for _, pointed := range pointedCurves() {
		texts := textsOf(pointed)
		if len(texts) != len(pointed.points) {
			t.Error("points with the same text", pointed)
		}
		for _, p := range pointed.points {
			if got, ok := impl.PointText(pointed.curve, p); got != textOf(p) || !ok {
				t.Errorf("the text of %v on %v: got %q, %v, want %q", p, pointed.curve, got, ok, textOf(p))
			}
			checkPointText(t, pointed.curve, texts, textOf(p))
		}
	}
}

func TestSpecialPointTexts(t *testing.T) {
	for _, known := range []struct {
		curve impl.Curve
		point impl.Point
		want  string
	}{
		{curveOf(-16, 16), infinity, "O"}, {curveOf(1000, 9999), infinity, "O"}, {curveOf(-16, 16), pointOf(0, 4, 1), "(0,4)"}, {curveOf(-16, 16), pointOf(0, -4, 1), "(0,-4)"}, {curveOf(-16, 16), pointOf(-4, -4, 1), "(-4,-4)"}, {curveOf(-16, 16), pointOf(1, -1, 1), "(1,-1)"},
		{curveOf(-1, 0), pointOf(0, 0, 1), "(0,0)"}, {curveOf(-1, 0), pointOf(-1, 0, 1), "(-1,0)"}, {curveOf(0, 17), pointOf(5234, -378661, 1), "(5234,-378661)"},
		{curveOf(-25, 0), pointOf(1681, 62279, 12), "(1681/144,62279/1728)"}, {curveOf(-25, 0), pointOf(1681, -62279, 12), "(1681/144,-62279/1728)"}, {curveOf(4, 61), pointOf(-1439, -1809, 20), "(-1439/400,-1809/8000)"}, {curveOf(-977, 7764), pointOf(-10000, 58346, 17), "(-10000/289,58346/4913)"},
		{curveOf(990, 10000), pointOf(9801, 1770299, 20), "(9801/400,1770299/8000)"}, {curveOf(1, -10000), pointOf(10000, 1000000, 1), "(10000,1000000)"},
	} {
		if got, ok := impl.PointText(known.curve, known.point); got != known.want || !ok {
			t.Errorf("the text of %v: got %q, %v, want %q", known, got, ok, known.want)
		}
		got, ok := impl.ParsePoint(known.curve, known.want)
		checkPoint(t, got, ok, known.point, true, known.curve, known.want)
	}
}

func TestTextsThatAreNoPoints(t *testing.T) {
	c := curveOf(-16, 16)
	texts := []string{
		"", " ", "O ", " O", "o", "0", "OO", "O,O", "(O)", "(O,O)", "-O", "+O", "O\n", "O\x00", "\u041e", "()", "(,)", "(", ")", ",", "(0,4", "0,4)", "0,4", "(0 4)", "(04)", "(0,4))", "((0,4)", "((0,4))", ")0,4(", "[0,4]", "{0,4}", "(0;4)", "(0,,4)", "(,0,4)", "(0,4,)", "(0,4,1)", "(0,4)(0,4)", "(0,4)O", "O(0,4)", "(0)", "(0,)", "(,4)", "(4)",
		" (0,4)", "(0,4) ", "( 0,4)", "(0 ,4)", "(0, 4)", "(0,4 )", "(0,4)\n", "\n(0,4)", "(0,\t4)", "(0,4\n)", "(0,\u00a04)",
		"(00,4)", "(0,04)", "(0,004)", "(04,4)", "(4,04)", "(-04,-4)", "(-4,-04)", "(+0,4)", "(0,+4)", "(+4,+4)", "(4,+4)", "(+4,4)", "(-0,4)", "(-0,-4)", "(0,--4)", "(0,-+4)", "(--4,4)", "(0,4-)", "(0-,4)", "(0,- 4)", "(- 4,4)", "(0,4.0)", "(0.0,4)", "(0,4e0)", "(0,0x4)", "(0,4_0)",
		// Not in lowest terms, or with a Den that should not be there.
		"(0/1,4)", "(0,4/1)", "(0/1,4/1)", "(4/1,4/1)", "(0/4,4)", "(0/4,32/8)", "(16/4,32/8)", "(0,8/2)", "(4,-8/2)", "(4,8/2)", "(8/2,4)", "(4/1,4)", "(1/1,1/1)", "(4/4,8/8)", "(0/0,4)", "(0,4/0)", "(0,-4/-1)", "(0/-1,4)", "(-4/1,-4)", "(4/-1,4)", "(0,4/)", "(0/,4)", "(/,4)", "(0,/4)", "(0/1/1,4)", "(0,4/1/1)",
		// Not on the curve.
		"(0,0)", "(0,1)", "(0,3)", "(0,5)", "(4,0)", "(4,-5)", "(2,2)", "(3,1)", "(-5,1)", "(4,16)", "(4,44)", "(1/4,7/8)", "(1/2,1)", "(1/9,1/27)", "(10000,1000000)", "(10001,1)", "(-10001,1)", "(1/441,1/9261)", "(1000000000,1)", "(9999999999,4)", "(1,1/8)",
		// The right numbers modulo 2 to the power 64, and other digits.
		"(18446744073709551616,4)", "(0,18446744073709551620)", "(0,-18446744073709551612)", "(18446744073709551620,4)", "(0,9223372036854775812)", "(0/18446744073709551617,4)", "(0,4/18446744073709551617)", "(\u0660,4)", "(0,\u0664)", "(0,\uff14)", "(0,\u22124)", "(0\uff0c4)", "(0,4\xff)", "(\xff0,4)", "(0,:)", "(0,a)", "(a,4)", "(0,4a)",
		strings.Repeat("(", 100000), strings.Repeat("(0,4)", 1000), "(" + strings.Repeat("0", 1000) + ",4)", "(0," + strings.Repeat("0", 1000) + "4)", "(0,4" + strings.Repeat(")", 1000), "(" + strings.Repeat("9", 100000) + ",4)", strings.Repeat(",", 1000), "(0,4" + strings.Repeat(" ", 1000) + ")",
	}
	for _, s := range texts {
		got, ok := impl.ParsePoint(c, s)
		checkPoint(t, got, ok, infinity, false, c, fmt.Sprintf("%.40q", s))
	}
	for _, s := range []string{"O", "(0,4)", "(0,-4)", "(4,4)", "(-4,-4)", "(1,1)"} {
		if _, ok := impl.ParsePoint(c, s); !ok {
			t.Error(c, "should have", s)
		}
	}
}

func TestTextsOfPlacesOutOfRange(t *testing.T) {
	for _, known := range placesOutOfRange() {
		p := known.point
		if p.E > 0 {
			s := fmt.Sprintf("(%d/%d,%d/%d)", p.X, p.E*p.E, p.Y, p.E*p.E*p.E)
			if p.E == 1 {
				s = fmt.Sprintf("(%d,%d)", p.X, p.Y)
			}
			got, ok := impl.ParsePoint(known.curve, s)
			checkPoint(t, got, ok, infinity, false, known.curve, s)
		}
		if text, ok := impl.PointText(known.curve, p); text != "" || ok {
			t.Errorf("the text of %v: got %q, %v", known, text, ok)
		}
	}
}

func TestTextsOfOtherCurves(t *testing.T) {
	pointed := pointedCurves()
	for i, one := range pointed {
		texts := textsOf(one)
		for _, k := range []int{0, 1, (i + 1) % len(pointed), (i * 7) % len(pointed)} {
			for _, p := range pointed[k].points {
				checkPointText(t, one.curve, texts, textOf(p))
			}
		}
	}
}

func TestAllShortPointTexts(t *testing.T) {
	letters := "O(),-/0124 +"
	for _, c := range []impl.Curve{curveOf(-16, 16), curveOf(-1, 0)} {
		texts := textsOf(pointedCurve{c, pointsOn(c)})
		for n := range 6 {
			size := int(math.Pow(float64(len(letters)), float64(n)))
			for k := range size {
				s := make([]byte, 0, n)
				for rest := k; len(s) < n; rest /= len(letters) {
					s = append(s, letters[rest%len(letters)])
				}
				checkPointText(t, c, texts, string(s))
			}
		}
	}
}

func TestChangedPointTexts(t *testing.T) {
	letters := "O(),-/0123456789 +;\x00\xff"
	for i, pointed := range pointedCurves() {
		texts := textsOf(pointed)
		for k, p := range pointed.points {
			if k > 6 && k%(7+i%3) > 0 {
				continue
			}
			s := textOf(p)
			for at := range len(s) + 1 {
				for b := range len(letters) {
					checkPointText(t, pointed.curve, texts, s[:at]+letters[b:b+1]+s[at:])
					if at < len(s) {
						checkPointText(t, pointed.curve, texts, s[:at]+letters[b:b+1]+s[at+1:])
					}
				}
				if at < len(s) {
					checkPointText(t, pointed.curve, texts, s[:at]+s[at+1:])
					checkPointText(t, pointed.curve, texts, s[:at])
					checkPointText(t, pointed.curve, texts, s[at:])
				}
			}
		}
	}
}

func TestEveryByteInPointText(t *testing.T) {
	c := curveOf(-16, 16)
	texts := textsOf(pointedCurve{c, pointsOn(c)})
	for b := range 256 {
		one := string([]byte{byte(b)})
		for _, s := range []string{one, one + "0,4)", "(" + one + ",4)", "(0" + one + "4)", "(0," + one + ")", "(0,4" + one, "(0,4)" + one, one + "(0,4)", "(" + one + "4,4)", "(0," + one + "4)", "O" + one, one + "O"} {
			checkPointText(t, c, texts, s)
		}
	}
}

func TestTextsOfInvalidCurvesFail(t *testing.T) {
	for _, c := range append(invalidCurves(), impl.Curve{}, curveOf(math.MinInt, math.MaxInt)) {
		for _, s := range []string{"O", "(0,0)", "(0,1)", "(1,1)", "(0,4)", "(0,-100)", "(1/4,1/8)", "(" + strconv.Itoa(c.A) + "," + strconv.Itoa(c.B) + ")", ""} {
			got, ok := impl.ParsePoint(c, s)
			checkPoint(t, got, ok, infinity, false, c, s)
		}
	}
}
