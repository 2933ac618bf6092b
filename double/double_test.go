package double

import (
	"math"
	"strconv"
	"strings"
	"testing"
)

func same(a, b float64) bool {
	return math.Float64bits(a) == math.Float64bits(b) || math.IsNaN(a) && math.IsNaN(b)
}

// P3.1
func TestParse(t *testing.T) {
	minus0 := math.Copysign(0, -1)
	for s, want := range map[string]float64{
		"-0e0": minus0, "1.": 1, "0": 0, "+0": 0, "-0": minus0, "-.0": minus0, "-0.e-22": minus0, "-0E22": minus0,
		"1": 1, "+1": 1, "-1": -1, "007": 7, ".5": .5, "-.5": -.5, "+.5E+1": 5, "1.5": 1.5, "12.50": 12.5,
		"1e22": 1e22, "1E-22": 1e-22, "1e+22": 1e22, "1e022": 1e22, "1e-022": 1e-22, "1e000": 1, "1.0e23": 1e23,
		".1e23": 1e22, "0.1": .1, "0.3": .3, "1e-1": .1, "9e-22": 9e-22,
		"999999999999999": 999999999999999, "000000000000001": 1, "-999999999999999e22": -999999999999999e22,
		"999999999999999e-22": 999999999999999e-22, "123456789012.345": 123456789012.345, ".000000000000001": 1e-15,
		"1.00000000000000": 1, "NaN": math.NaN(), "INF": math.Inf(1), "+INF": math.Inf(1), "-INF": math.Inf(-1),
		"1.000000000000e-10": 1e-10, "1.5e23": 15e22, "0e22": 0, "0e-22": 0,
	} {
		if n, ok := Parse(s); !ok || !same(n, want) {
			t.Error(s, n, ok)
		}
	}
}

// P3.1
func TestParseRefuses(t *testing.T) {
	for _, s := range []string{
		"", " ", "+", "-", ".", "-.", "e", "e5", ".e5", "1e", "1e+", "1e-", "1e1.", "1e1.5", "1e1e1", "1 ", " 1", "1\n", "1\x00",
		"--1", "+-1", "1-", "1+1", "1..2", "1.2.3", "1,5", "0x1", "1_0", "1f", "Infinity", "inf", "Inf", "INFx", "INF ", "+-INF",
		"nan", "NAN", "+NaN", "-NaN", "NaN0", "1e23", "1e-23", "0e23", "0e-23", "10.0e-22", "1.0e-22", "1e0022", "1e0000", "1e-0001",
		"1000000000000000", "0000000000000001", "1.000000000000000", "0000000000000000", ".0000000000000000", "1e999", "1e-999",
		"\u0661", "1\u00e9", "\xff", "1\xff", "１", "1e٣", "1e１",
		strings.Repeat("1", 1<<16), "1e" + strings.Repeat("1", 1<<16), "1." + strings.Repeat("0", 1<<16), strings.Repeat("-", 1<<16),
	} {
		if n, ok := Parse(s); ok || !same(n, 0) {
			t.Error(s, n, ok)
		}
	}
}

// P3.1: one operation to the nearest is what strconv finds, too, while both sides are exact.
func TestParseRounds(t *testing.T) {
	for m := uint64(1); m < 1e15; m = m*3 + 7 {
		for e := -22; e <= 22; e++ {
			s := strconv.FormatUint(m, 10) + "e" + strconv.Itoa(e)
			want, _ := strconv.ParseFloat(s, 64)
			if n, ok := Parse("-" + s); !ok || n != -want {
				t.Fatal(s, n, ok)
			}
		}
	}
}

// edges rise by Order.
func edges() []float64 {
	return []float64{
		math.NaN(), math.Inf(-1), -math.MaxFloat64, -1, -math.SmallestNonzeroFloat64, math.Copysign(0, -1),
		0, math.SmallestNonzeroFloat64, .1, 1, 1.5, math.MaxFloat64, math.Inf(1),
	}
}

// P3.2
func TestHolds(t *testing.T) {
	for i, a := range edges() {
		for j, b := range edges() {
			less, equal := i < j, i == j
			if a == 0 && b == 0 {
				less, equal = false, true
			}
			numbers := i != 0 && j != 0
			less, equal = less && numbers, equal && numbers
			for op, want := range map[string]bool{
				"<": less, "<=": less || equal, "=": equal, "!=": !equal,
				">": numbers && !less && !equal, ">=": numbers && !less,
				"": false, "==": false, "<>": false, "=<": false, " <": false, "< ": false, "!": false, "\xff": false, "=\x00": false,
			} {
				if Holds(a, op, b) != want {
					t.Error(a, op, b)
				}
			}
		}
	}
}

// P3.2, P3.3
func TestOrder(t *testing.T) {
	for i, a := range edges() {
		for j, b := range edges() {
			want := 0
			if i < j {
				want = -1
			} else if i > j {
				want = 1
			}
			if Order(a, b) != want {
				t.Error(a, b, Order(a, b))
			}
			if i != 0 && j != 0 && (a != 0 || b != 0) && (a < b) != (Order(a, b) < 0) {
				t.Error(a, b)
			}
		}
	}
	odd := math.Float64frombits(0xfff8000000000123)
	if Order(odd, math.NaN()) != 0 || Order(math.NaN(), odd) != 0 || Order(odd, math.Inf(-1)) != -1 || Holds(odd, "=", odd) {
		t.Error("all NaN are one")
	}
}
