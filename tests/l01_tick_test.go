package tests

import (
	"math"
	"slices"
	"strings"
	"testing"

	"loop.example/g00722/impl"
)

const top = impl.MaxTick

// edgeTicks are both ends of the range and ordinary ticks between them.
func edgeTicks() []int {
	return []int{0, 1, 2, 999, 1000, 1001, 12034, top / 2, top/2 + 1, top - 1000, top - 1, top}
}

// notTicks are numbers just outside the range and those whose sums would wrap around.
func notTicks() []int {
	return []int{-1, -2, -top, top + 1, 2 * top, math.MinInt, math.MinInt + 1, math.MaxInt - 1, math.MaxInt}
}

func repeated(t int, n int) []int { return slices.Repeat([]int{t}, n) }

func TestLimitsOfChapter1(t *testing.T) {
	if impl.MaxTick != 1000000000 || impl.MaxList != 300 {
		t.Errorf("MaxTick %d, MaxList %d", impl.MaxTick, impl.MaxList)
	}
}

func TestTickOk(t *testing.T) {
	for _, x := range edgeTicks() {
		if !impl.TickOk(x) {
			t.Errorf("TickOk(%d) is false", x)
		}
	}
	for _, x := range notTicks() {
		if impl.TickOk(x) {
			t.Errorf("TickOk(%d) is true", x)
		}
	}
}

func TestAddTick(t *testing.T) {
	cases := []struct{ t, d, want int }{
		{5, 3, 8},
		{5, -3, 2},
		{5, 0, 5},
		{0, 0, 0},
		{top, 0, top},
		{top - 1, 1, top},
		{top, 1, top},
		{top, top, top},
		{1, top, top},
		{0, top, top},
		{top/2 + 1, top / 2, top},
		{3, -3, 0},
		{3, -4, 0},
		{0, -1, 0},
		{0, -top, 0},
		{top, -top, 0},
		{top, -1, top - 1},
		{top, -top + 1, 1},
		{0, top + 1, -1},
		{0, -top - 1, -1},
		{top, -top - 1, -1},
		{-1, 0, -1},
		{-1, 5, -1},
		{top + 1, 0, -1},
		{top + 1, -5, -1},
		{0, math.MaxInt, -1},
		{0, math.MinInt, -1},
		{top, math.MaxInt, -1},
		{math.MaxInt, 1, -1},
		{math.MinInt, -1, -1},
		{math.MaxInt, math.MaxInt, -1},
		{math.MinInt, math.MinInt, -1},
	}
	for _, c := range cases {
		if got := impl.AddTick(c.t, c.d); got != c.want {
			t.Errorf("AddTick(%d, %d) = %d, want %d", c.t, c.d, got, c.want)
		}
	}
}

func TestAdditionStaysInRangeAndCommutes(t *testing.T) {
	for _, a := range edgeTicks() {
		for _, b := range edgeTicks() {
			sum, back := impl.AddTick(a, b), impl.AddTick(b, a)
			if sum != back || sum != min(a+b, top) {
				t.Errorf("AddTick(%d, %d) = %d, the other way round %d", a, b, sum, back)
			}
			if got := impl.AddTick(a, -b); got != max(a-b, 0) {
				t.Errorf("AddTick(%d, %d) = %d", a, -b, got)
			}
		}
		for _, b := range notTicks() {
			if got := impl.AddTick(b, a); got != -1 {
				t.Errorf("AddTick(%d, %d) = %d, want -1", b, a, got)
			}
		}
	}
}

func TestSince(t *testing.T) {
	cases := []struct{ from, now, want int }{
		{5, 9, 4},
		{9, 5, 0},
		{7, 7, 0},
		{0, 0, 0},
		{0, top, top},
		{top, 0, 0},
		{top, top, 0},
		{top - 1, top, 1},
		{-1, 5, -1},
		{5, -1, -1},
		{top + 1, 5, -1},
		{5, top + 1, -1},
		{math.MinInt, math.MaxInt, -1},
		{math.MaxInt, math.MinInt, -1},
	}
	for _, c := range cases {
		if got := impl.Since(c.from, c.now); got != c.want {
			t.Errorf("Since(%d, %d) = %d, want %d", c.from, c.now, got, c.want)
		}
	}
}

func TestDueAt(t *testing.T) {
	cases := []struct {
		from, after, now int
		want             bool
	}{
		{5, 4, 9, true},
		{5, 4, 10, true},
		{5, 4, 8, false},
		{0, 1, 1, true},
		{0, 1, 0, false},
		{5, 0, 9, false},
		{0, 0, 0, false},
		{top, 0, top, false},
		{top, 1, top, true}, // the sum is limited to MaxTick
		{top, top, top, true},
		{top, 1, top - 1, false},
		{1, top, top - 1, false},
		{0, top, top, true},
		{5, -4, 9, false},
		{-1, 4, 9, false},
		{5, 4, -1, false},
		{top + 1, 1, top, false},
		{0, top + 1, top, false},
		{0, 1, top + 1, false},
		{0, math.MinInt, top, false},
		{0, math.MaxInt, top, false},
		{math.MinInt, 1, 0, false},
		{0, 1, math.MaxInt, false},
	}
	for _, c := range cases {
		if got := impl.DueAt(c.from, c.after, c.now); got != c.want {
			t.Errorf("DueAt(%d, %d, %d) = %v", c.from, c.after, c.now, got)
		}
	}
}

func TestSoonestOf(t *testing.T) {
	cases := []struct {
		list []int
		want int
	}{
		{nil, -1},
		{[]int{}, -1},
		{[]int{4}, 4},
		{[]int{7, -1, 3}, 3},
		{[]int{3, 7, 5}, 3},
		{[]int{5, 0, 2}, 0},
		{[]int{0, 5}, 0},
		{[]int{top + 1, top}, top},
		{[]int{-5, math.MinInt, math.MaxInt, top + 1}, -1},
		{[]int{9, 9, 9}, 9},
		{repeated(6, impl.MaxList), 6},
		{append(repeated(6, impl.MaxList-1), 2), 2},
		{repeated(-1, impl.MaxList), -1},
		{append(repeated(6, impl.MaxList), 2), -1},
		{repeated(6, 10*impl.MaxList), -1},
	}
	for k, c := range cases {
		before := slices.Clone(c.list)
		if got := impl.SoonestOf(c.list); got != c.want {
			t.Errorf("case %d: SoonestOf = %d, want %d", k, got, c.want)
		}
		if !slices.Equal(before, c.list) {
			t.Errorf("case %d: SoonestOf changed its argument", k)
		}
	}
}

func TestSumTicks(t *testing.T) {
	cases := []struct {
		list []int
		want int
	}{
		{nil, 0},
		{[]int{}, 0},
		{[]int{0}, 0},
		{[]int{1, 2, 3}, 6},
		{[]int{top}, top},
		{[]int{top, 0}, top},
		{[]int{top - 1, 1}, top},
		{[]int{top - 1, 2}, top},
		{[]int{top, top, top}, top},
		{[]int{-1}, -1},
		{[]int{top, top, -1}, -1},
		{[]int{5, -1, 5}, -1},
		{[]int{top + 1}, -1},
		{[]int{1, math.MaxInt}, -1},
		{[]int{1, math.MinInt}, -1},
		{repeated(1, impl.MaxList), impl.MaxList},
		{repeated(top, impl.MaxList), top},
		{append(repeated(1, impl.MaxList-1), -1), -1},
		{repeated(1, impl.MaxList+1), -1},
		{repeated(0, impl.MaxList+1), -1},
		{repeated(1, 10*impl.MaxList), -1},
	}
	for k, c := range cases {
		before := slices.Clone(c.list)
		if got := impl.SumTicks(c.list); got != c.want {
			t.Errorf("case %d: SumTicks = %d, want %d", k, got, c.want)
		}
		if !slices.Equal(before, c.list) {
			t.Errorf("case %d: SumTicks changed its argument", k)
		}
	}
}

func TestTickText(t *testing.T) {
	cases := []struct {
		t    int
		want string
	}{
		{0, "0.000"},
		{7, "0.007"},
		{70, "0.070"},
		{700, "0.700"},
		{999, "0.999"},
		{1000, "1.000"},
		{1001, "1.001"},
		{12034, "12.034"},
		{1234567, "1234.567"},
		{top - 1, "999999.999"},
		{top, "1000000.000"},
	}
	for _, c := range cases {
		if got := impl.TickText(c.t); got != c.want {
			t.Errorf("TickText(%d) = %q, want %q", c.t, got, c.want)
		}
	}
	for _, x := range notTicks() {
		if got := impl.TickText(x); got != "" {
			t.Errorf("TickText(%d) = %q, want nothing", x, got)
		}
	}
}

func checkRoundTrip(t *testing.T, x int) {
	t.Helper()
	text := impl.TickText(x)
	if got, ok := impl.ParseTick(text); !ok || got != x {
		t.Errorf("ParseTick(%q) = %d, %v; want %d", text, got, ok, x)
	}
}

func TestParsingInvertsFormatting(t *testing.T) {
	for _, x := range edgeTicks() {
		checkRoundTrip(t, x)
	}
	for k := range 3000 {
		checkRoundTrip(t, k)
		checkRoundTrip(t, top-k)
	}
	for x := 0; x <= top; x += 99991 {
		checkRoundTrip(t, x)
	}
	for power := 1; power <= top; power *= 10 {
		checkRoundTrip(t, power-1)
		checkRoundTrip(t, power)
	}
}

func TestParseTickRejectsOtherTexts(t *testing.T) {
	texts := []string{
		"", ".", "0", "7", "000", "0000", "00000", "0.", ".000", "0.0", "0.00", "0.0000",
		"12.34", "12.0340", "012.034", "00.007", "12.034.", "12..034", "1.2.034", "12,034",
		"12034", "12034.", "120.34", "12 .034", " 12.034", "12.034 ", "12.034\n", "12.034\x00",
		"-1.000", "-0.000", "-0.001", "+1.000", "+0.000", "1.-00", "1.+00", "1.-001", "--1.000",
		"0x1.000", "1_0.000", "1e3.000", "1.0e0", "a.000", "0.00a", "1.00\xff",
		"\u0661.000", "1\uff0e000", "1.\u0660\u0660\u0660",
		"1000000.001", "1000001.000", "1000000.0000", "9999999.999", "0000000.000", "01000000.000",
		"10000000.000", "9223372036854775.807", "9223372036854775.808", "18446744073709551.616",
		"18446744073709552.616", "99999999999999999999.000",
		strings.Repeat("0", 400) + ".000", strings.Repeat("9", 100000) + ".000",
	}
	for _, text := range texts {
		if got, ok := impl.ParseTick(text); ok || got != 0 {
			t.Errorf("ParseTick(%.30q) = %d, %v; want 0, false", text, got, ok)
		}
	}
}

// TestParseTickAcceptsOnlyFormattedTexts tries every text of up to seven bytes
// over a few bytes that occur in nearly correct texts.
func TestParseTickAcceptsOnlyFormattedTexts(t *testing.T) {
	accepted := 0
	texts := []string{""}
	for len(texts[0]) <= 7 {
		var longer []string
		for _, text := range texts {
			x, ok := impl.ParseTick(text)
			if ok {
				accepted++
			}
			if ok && impl.TickText(x) != text || !ok && x != 0 {
				t.Errorf("ParseTick(%q) = %d, %v", text, x, ok)
			}
			for _, b := range []string{"0", "1", ".", "-", "+"} {
				longer = append(longer, text+b)
			}
		}
		texts = longer
	}
	// Before the dot: 0, 1, 10, 11, 100, 101, 110, 111; behind it eight choices.
	if accepted != 64 {
		t.Errorf("%d texts are accepted, want 64", accepted)
	}
}
