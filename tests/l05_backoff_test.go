package tests

import (
	"math"
	"math/big"
	"slices"
	"testing"

	"loop.example/g00722/impl"
)

const maxCap = 1000000

func backoffConfig(base, limit, jitter int) impl.Config {
	c := impl.DefaultConfig()
	c.Base, c.Cap, c.Jitter = base, limit, jitter
	return c
}

// backoffConfigs have a Base that equals Cap, a Cap that a doubled Base meets
// exactly or misses by one, both ends of the ranges, and mixed values.
func backoffConfigs() []impl.Config {
	var list []impl.Config
	for _, jitter := range []int{0, 1, 33, 50, 99, 100} {
		for _, pair := range [][2]int{
			{1, 1}, {2, 2}, {7, 7}, {maxCap, maxCap}, {999999, maxCap}, {500000, maxCap}, {499999, maxCap}, {500001, maxCap},
			{1, 2}, {1, 3}, {1, 4}, {1, 5}, {2, 32}, {2, 31}, {2, 33}, {3, 10}, {1, 524287}, {1, 524288}, {1, 524289}, {1, maxCap},
			{1, 999999}, {3, maxCap}, {15625, maxCap}, {99, 100}, {50, 99}, {50, 101},
		} {
			list = append(list, backoffConfig(pair[0], pair[1], jitter))
		}
	}
	draw := drawer(5)
	for range 200 {
		a, b := 1+draw([]int{10, 1000, maxCap}[draw(3)]), 1+draw([]int{10, 1000, maxCap}[draw(3)])
		list = append(list, backoffConfig(min(a, b), max(a, b), draw(101)))
	}
	return list
}

// plainFull follows the chapter with numbers of any length.
func plainFull(c impl.Config, n int) int {
	if n == 0 {
		return 0
	}
	power := new(big.Int).Lsh(big.NewInt(int64(c.Base)), uint(min(n-1, 100)))
	if power.Cmp(big.NewInt(int64(c.Cap))) >= 0 {
		return c.Cap
	}
	return int(power.Int64())
}

func plainReduction(c impl.Config, n int) int { return plainFull(c, n) * c.Jitter / 100 }

func plainWait(c impl.Config, n int, draw int) int {
	if draw < 0 {
		draw = 0
	}
	return plainFull(c, n) - plainReduction(c, n)*(draw%1001)/1000
}

func failureCounts() []int {
	list := []int{1000, 12345, top - 1, top, top + 1, 2 * top, 1 << 32, 1<<32 + 1, 1 << 62, math.MaxInt - 1, math.MaxInt}
	for n := range 70 {
		list = append(list, n)
	}
	return list
}

func edgeDraws() []int {
	return []int{0, 1, 2, 499, 500, 501, 999, 1000, 1001, 1002, 2001, 2002, top, math.MaxInt - 1, math.MaxInt, -1, -2, -1000, -1001, -1002, -top, math.MinInt + 1, math.MinInt}
}

func TestFullWait(t *testing.T) {
	cases := []struct{ base, limit, n, want int }{
		{2, 32, 0, 0}, {2, 32, 1, 2}, {2, 32, 2, 4}, {2, 32, 3, 8}, {2, 32, 4, 16}, {2, 32, 5, 32}, {2, 32, 6, 32},
		{2, 31, 4, 16}, {2, 31, 5, 31}, {2, 31, 6, 31},
		{2, 33, 5, 32}, {2, 33, 6, 33}, {2, 33, 7, 33},
		{3, 10, 1, 3}, {3, 10, 2, 6}, {3, 10, 3, 10}, {3, 10, 4, 10},
		{1, 1, 0, 0}, {1, 1, 1, 1}, {1, 1, 2, 1},
		{7, 7, 0, 0}, {7, 7, 1, 7}, {7, 7, 2, 7}, {7, 7, 3, 7},
		{1, maxCap, 1, 1}, {1, maxCap, 20, 524288}, {1, maxCap, 21, maxCap}, {1, maxCap, 22, maxCap},
		{999999, maxCap, 1, 999999}, {999999, maxCap, 2, maxCap},
		{maxCap, maxCap, 0, 0}, {maxCap, maxCap, 1, maxCap}, {maxCap, maxCap, 2, maxCap},
		{2, 32, 63, 32}, {2, 32, 64, 32}, {2, 32, 65, 32}, {2, 32, 66, 32}, {2, 32, 1000, 32}, {2, 32, top, 32}, {2, 32, top + 1, 32},
		{1, maxCap, top, maxCap}, {1, maxCap, math.MaxInt - 1, maxCap}, {1, maxCap, math.MaxInt, maxCap}, {7, 7, math.MaxInt, 7},
		{2, 32, -1, -1}, {2, 32, -2, -1}, {2, 32, -top, -1}, {2, 32, math.MinInt + 1, -1}, {2, 32, math.MinInt, -1},
	}
	for _, c := range cases {
		for _, jitter := range []int{0, 50, 100} {
			if got := impl.FullWait(backoffConfig(c.base, c.limit, jitter), c.n); got != c.want {
				t.Errorf("FullWait, Base %d, Cap %d, n %d = %d, want %d", c.base, c.limit, c.n, got, c.want)
			}
		}
	}
}

func TestDelaysDoubleUpToCap(t *testing.T) {
	for _, c := range backoffConfigs() {
		delay := c.Base
		for n := 1; n <= 80; n++ {
			if got := impl.FullWait(c, n); got != delay {
				t.Errorf("FullWait(%v, %d) = %d, want %d", c, n, got, delay)
			}
			delay = min(2*delay, c.Cap)
		}
		for _, n := range failureCounts() {
			if got, want := impl.FullWait(c, n), plainFull(c, n); got != want {
				t.Errorf("FullWait(%v, %d) = %d, want %d", c, n, got, want)
			}
		}
	}
}

func TestStepsToCap(t *testing.T) {
	cases := []struct{ base, limit, want int }{
		{2, 32, 5}, {2, 31, 5}, {2, 33, 6}, {1, 1, 1}, {7, 7, 1}, {maxCap, maxCap, 1}, {999999, maxCap, 2}, {500000, maxCap, 2}, {499999, maxCap, 3},
		{1, 2, 2}, {1, 3, 3}, {1, 4, 3}, {1, 5, 4}, {3, 10, 3}, {1, 524288, 20}, {1, 524289, 21}, {1, maxCap, 21}, {15625, maxCap, 7},
	}
	for _, c := range cases {
		if got := impl.StepsToCap(backoffConfig(c.base, c.limit, 50)); got != c.want {
			t.Errorf("StepsToCap, Base %d, Cap %d = %d, want %d", c.base, c.limit, got, c.want)
		}
	}
	for _, c := range backoffConfigs() {
		n := impl.StepsToCap(c)
		if n < 1 || impl.FullWait(c, n-1) >= c.Cap || impl.FullWait(c, n) != c.Cap || impl.FullWait(c, n+1) != c.Cap {
			t.Errorf("StepsToCap(%v) = %d, but the delays there are %d, %d, %d", c, n, impl.FullWait(c, n-1), impl.FullWait(c, n), impl.FullWait(c, n+1))
		}
	}
}

func TestJitteredWait(t *testing.T) {
	cases := []struct{ full, jitter, draw, want int }{
		{16, 50, 0, 16}, {16, 50, 124, 16}, {16, 50, 125, 15}, {16, 50, 500, 12}, {16, 50, 999, 9}, {16, 50, 1000, 8},
		{16, 50, 1001, 16}, {16, 50, 1501, 12}, {16, 50, 2001, 8}, {16, 50, 2002, 16},
		{16, 50, -1, 16}, {16, 50, -7, 16}, {16, 50, -500, 16}, {16, 50, -1000, 16}, {16, 50, math.MinInt, 16},
		// The maximum reduction is rounded down, and so is the reduction.
		{7, 33, 499, 7}, {7, 33, 500, 6}, {7, 33, 999, 6}, {7, 33, 1000, 5},
		{7, 10, 1000, 7}, {7, 14, 1000, 7}, {7, 15, 999, 7}, {7, 15, 1000, 6},
		{7, 99, 166, 7}, {7, 99, 167, 6}, {7, 99, 1000, 1},
		{7, 100, 142, 7}, {7, 100, 143, 6}, {7, 100, 999, 1}, {7, 100, 1000, 0}, {7, 100, 1001, 7}, {7, 100, -1000, 7},
		{1, 100, 999, 1}, {1, 100, 1000, 0}, {1, 99, 1000, 1}, {1, 0, 1000, 1},
		{7, 0, 0, 7}, {7, 0, 1000, 7}, {7, 0, math.MaxInt, 7},
		{999999, 50, 500, 750000}, {999999, 50, 1000, 500000},
		{maxCap, 1, 1, 999990}, {maxCap, 100, 1, 999000}, {maxCap, 100, 999, 1000}, {maxCap, 100, 1000, 0}, {maxCap, 100, 1001, maxCap},
		{maxCap, 100, 500, 500000}, {maxCap, 0, 1000, maxCap},
		// The greatest int is 7 modulo 1001, and MaxTick is 1000.
		{maxCap, 100, math.MaxInt, 993000}, {maxCap, 100, math.MaxInt - 1, 994000}, {maxCap, 100, top, 0},
	}
	for _, c := range cases {
		config := backoffConfig(c.full, c.full, c.jitter)
		for _, n := range []int{1, 2, top, math.MaxInt} {
			if got := impl.JitteredWait(config, n, c.draw); got != c.want {
				t.Errorf("JitteredWait, delay %d, Jitter %d, n %d, draw %d = %d, want %d", c.full, c.jitter, n, c.draw, got, c.want)
			}
		}
		if got := impl.JitteredWait(config, 0, c.draw); got != 0 {
			t.Errorf("JitteredWait without a failure, draw %d = %d", c.draw, got)
		}
	}
}

func TestLeastWait(t *testing.T) {
	cases := []struct{ base, limit, jitter, n, want int }{
		{2, 32, 50, 0, 0}, {2, 32, 50, 1, 1}, {2, 32, 50, 2, 2}, {2, 32, 50, 4, 8}, {2, 32, 50, 5, 16}, {2, 32, 50, 6, 16}, {2, 32, 50, math.MaxInt, 16},
		{2, 32, 0, 4, 16}, {2, 32, 0, 99, 32}, {2, 32, 100, 1, 0}, {2, 32, 100, 4, 0}, {2, 32, 100, math.MaxInt, 0},
		{7, 7, 33, 1, 5}, {7, 7, 14, 1, 7}, {7, 7, 15, 1, 6}, {7, 7, 99, 1, 1}, {7, 7, 100, 1, 0},
		{1, maxCap, 100, 20, 0}, {1, maxCap, 99, 20, 5243}, {1, maxCap, 99, 21, 10000}, {1, maxCap, 1, top, 990000},
		{2, 32, 50, -1, -1}, {2, 32, 0, math.MinInt, -1},
	}
	for _, c := range cases {
		if got := impl.LeastWait(backoffConfig(c.base, c.limit, c.jitter), c.n); got != c.want {
			t.Errorf("LeastWait, Base %d, Cap %d, Jitter %d, n %d = %d, want %d", c.base, c.limit, c.jitter, c.n, got, c.want)
		}
	}
}

func checkDelay(t *testing.T, c impl.Config, n, draw int) {
	t.Helper()
	least, got, full := impl.LeastWait(c, n), impl.JitteredWait(c, n, draw), impl.FullWait(c, n)
	if got != plainWait(c, n, draw) {
		t.Errorf("JitteredWait(%v, %d, %d) = %d, want %d", c, n, draw, got, plainWait(c, n, draw))
	}
	if got < least || got > full || least < 0 {
		t.Errorf("JitteredWait(%v, %d, %d) = %d is not between %d and %d", c, n, draw, got, least, full)
	}
}

func TestDelaysLieBetweenLeastAndFull(t *testing.T) {
	for _, c := range backoffConfigs() {
		for _, n := range failureCounts() {
			if got, want := impl.LeastWait(c, n), plainFull(c, n)-plainReduction(c, n); got != want {
				t.Errorf("LeastWait(%v, %d) = %d, want %d", c, n, got, want)
			}
			for _, draw := range edgeDraws() {
				checkDelay(t, c, n, draw)
			}
			// Both ends are met, and the draws repeat.
			if impl.JitteredWait(c, n, 0) != impl.FullWait(c, n) || impl.JitteredWait(c, n, 1000) != impl.LeastWait(c, n) ||
				impl.JitteredWait(c, n, 1001) != impl.FullWait(c, n) {
				t.Errorf("the ends of the delays of %v, %d are not met", c, n)
			}
		}
	}
}

func TestEveryDraw(t *testing.T) {
	for _, jitter := range []int{0, 1, 50, 99, 100} {
		c := backoffConfig(3, maxCap, jitter)
		for n := range 22 {
			last := impl.FullWait(c, n)
			for draw := range 1001 {
				checkDelay(t, c, n, draw)
				got := impl.JitteredWait(c, n, draw)
				if got > last || impl.JitteredWait(c, n, draw+1001) != got {
					t.Errorf("JitteredWait(%v, %d, %d) = %d after %d", c, n, draw, got, last)
				}
				last = got
			}
		}
	}
}

func TestWaitSum(t *testing.T) {
	cases := []struct{ base, limit, n, want int }{
		{2, 32, 0, 0}, {2, 32, 1, 2}, {2, 32, 2, 6}, {2, 32, 3, 14}, {2, 32, 4, 30}, {2, 32, 5, 62}, {2, 32, 6, 94}, {2, 32, 7, 126},
		{3, 10, 1, 3}, {3, 10, 2, 9}, {3, 10, 3, 19}, {3, 10, 4, 29},
		{1, 1, 0, 0}, {1, 1, 1, 1}, {1, 1, 999, 999}, {1, 1, top - 1, top - 1}, {1, 1, top, top},
		{1, 2, top - 1, top}, {1, 2, top / 2, top - 1}, {1, 2, top/2 + 1, top}, {2, 2, top / 2, top}, {2, 2, top/2 - 1, top - 2}, {2, 2, top/2 + 1, top},
		{1, maxCap, 20, 1048575}, {1, maxCap, 21, 2048575}, {1, maxCap, 1018, 999048575}, {1, maxCap, 1019, top},
		{maxCap, maxCap, 1, maxCap}, {maxCap, maxCap, 999, top - maxCap}, {maxCap, maxCap, 1000, top}, {maxCap, maxCap, 1001, top},
		{999999, 999999, 1000, 999999000}, {999999, 999999, 1001, top},
		{maxCap, maxCap, top - 1, top}, {maxCap, maxCap, top, top}, {1, maxCap, top, top}, {2, 32, top, top},
		{2, 32, -1, -1}, {2, 32, -top, -1}, {2, 32, math.MinInt, -1},
		{2, 32, top + 1, -1}, {1, 1, top + 1, -1}, {maxCap, maxCap, top + 1, -1}, {2, 32, math.MaxInt - 1, -1}, {2, 32, math.MaxInt, -1},
	}
	for _, c := range cases {
		for _, jitter := range []int{0, 50, 100} {
			if got := impl.WaitSum(backoffConfig(c.base, c.limit, jitter), c.n); got != c.want {
				t.Errorf("WaitSum, Base %d, Cap %d, n %d = %d, want %d", c.base, c.limit, c.n, got, c.want)
			}
		}
	}
	for _, c := range backoffConfigs() {
		sum := 0
		for n := range 2000 {
			sum = min(sum+plainFull(c, n), top)
			if got := impl.WaitSum(c, n); got != sum {
				t.Fatalf("WaitSum(%v, %d) = %d, want %d", c, n, got, sum)
			}
		}
	}
}

func TestRedials(t *testing.T) {
	cases := []struct {
		base, limit, jitter int
		draws, want         []int
	}{
		{2, 32, 50, nil, []int{0}},
		{2, 32, 50, []int{}, []int{0}},
		{2, 32, 50, []int{0}, []int{0, 2}},
		{2, 32, 50, []int{1000}, []int{0, 1}},
		{2, 32, 50, []int{0, 1000, 0}, []int{0, 2, 4, 12}},
		{2, 32, 50, []int{-1, 1001, math.MinInt, 2002, -1000, 0, 1000}, []int{0, 2, 6, 14, 30, 62, 94, 110}},
		{2, 32, 0, []int{1000, 1000, 1000, 1000, 1000, 1000}, []int{0, 2, 6, 14, 30, 62, 94}},
		{2, 32, 100, []int{1000, 1000, 1000}, []int{0, 0, 0, 0}},
		{2, 32, 100, []int{1000, 500, 1000, 0}, []int{0, 0, 2, 2, 18}},
		{7, 7, 33, []int{500, 499, 1000}, []int{0, 6, 13, 18}},
		{3, 10, 0, []int{0, 0, 0, 0}, []int{0, 3, 9, 19, 29}},
	}
	for k, c := range cases {
		if got := impl.Redials(backoffConfig(c.base, c.limit, c.jitter), c.draws); !slices.Equal(got, c.want) {
			t.Errorf("case %d: Redials = %v, want %v", k, got, c.want)
		}
	}
}

// checkRedials checks that no dial is attempted before the delay after the
// failure of the one before it, nor later.
func checkRedials(t *testing.T, c impl.Config, draws []int) {
	t.Helper()
	times := impl.Redials(c, draws)
	if len(times) != len(draws)+1 || times[0] != 0 {
		t.Fatalf("Redials(%v, %v) = %v", c, draws, times)
	}
	for k := 1; k < len(times); k++ {
		gap, least, full := times[k]-times[k-1], impl.LeastWait(c, k), impl.FullWait(c, k)
		if gap != plainWait(c, k, draws[k-1]) || gap < least || gap > full || !impl.TickOk(times[k]) {
			t.Fatalf("Redials(%v, %v): the dial %d follows after %d, want %d, between %d and %d", c, draws, k, gap, plainWait(c, k, draws[k-1]), least, full)
		}
	}
}

func TestFailedDialsWaitForTheirDelay(t *testing.T) {
	draw := drawer(14)
	for _, c := range backoffConfigs() {
		checkRedials(t, c, nil)
		checkRedials(t, c, edgeDraws())
		for _, x := range []int{0, 1000, 1001, math.MaxInt, -1} {
			checkRedials(t, c, repeated(x, impl.MaxList))
		}
		draws := make([]int, draw(impl.MaxList+1))
		for k := range draws {
			draws[k] = draw(1<<20) - 1000
		}
		checkRedials(t, c, draws)
	}
}

func TestNumberOfDraws(t *testing.T) {
	c := backoffConfig(maxCap, maxCap, 0)
	times := impl.Redials(c, repeated(0, impl.MaxList))
	if len(times) != impl.MaxList+1 || times[impl.MaxList] != impl.MaxList*maxCap {
		t.Errorf("Redials of MaxList draws: %v", times)
	}
	if times := impl.Redials(c, repeated(0, impl.MaxList-1)); len(times) != impl.MaxList {
		t.Errorf("Redials of one draw less: %v", times)
	}
	for _, n := range []int{impl.MaxList + 1, 10 * impl.MaxList} {
		for _, d := range []impl.Config{c, impl.DefaultConfig(), {}} {
			if times := impl.Redials(d, repeated(0, n)); len(times) != 0 {
				t.Errorf("Redials of %d draws: %v", n, times)
			}
		}
	}
}

func TestBackoffOfInvalidConfigs(t *testing.T) {
	counts := append(failureCounts(), -1, -2, -top, math.MinInt+1, math.MinInt)
	for _, c := range brokenConfigs() {
		for _, n := range counts {
			if full, least, sum := impl.FullWait(c, n), impl.LeastWait(c, n), impl.WaitSum(c, n); full != -1 || least != -1 || sum != -1 {
				t.Errorf("of %v, %d: FullWait %d, LeastWait %d, WaitSum %d", c, n, full, least, sum)
			}
			for _, draw := range edgeDraws() {
				if got := impl.JitteredWait(c, n, draw); got != -1 {
					t.Errorf("JitteredWait(%v, %d, %d) = %d", c, n, draw, got)
				}
			}
		}
		if got := impl.StepsToCap(c); got != -1 {
			t.Errorf("StepsToCap(%v) = %d", c, got)
		}
		for _, draws := range [][]int{nil, {0}, edgeDraws(), repeated(0, impl.MaxList)} {
			if got := impl.Redials(c, draws); len(got) != 0 {
				t.Errorf("Redials(%v, %v) = %v", c, draws, got)
			}
		}
	}
}

func TestBackoffOfNegativeFailures(t *testing.T) {
	for _, c := range backoffConfigs() {
		for _, n := range []int{-1, -2, -21, -64, -top, -top - 1, math.MinInt + 1, math.MinInt} {
			if full, least, sum := impl.FullWait(c, n), impl.LeastWait(c, n), impl.WaitSum(c, n); full != -1 || least != -1 || sum != -1 {
				t.Errorf("of %v, %d: FullWait %d, LeastWait %d, WaitSum %d", c, n, full, least, sum)
			}
			for _, draw := range edgeDraws() {
				if got := impl.JitteredWait(c, n, draw); got != -1 {
					t.Errorf("JitteredWait(%v, %d, %d) = %d", c, n, draw, got)
				}
			}
		}
	}
}

func TestBackoffDependsOnlyOnItsFields(t *testing.T) {
	c := impl.DefaultConfig()
	for k, f := range fieldRanges() {
		if f.name == "base" || f.name == "cap" || f.name == "jitter" {
			continue
		}
		for _, x := range []int{f.least, f.most} {
			d := withField(roomyConfig(k), k, x)
			for n := range 9 {
				if impl.FullWait(d, n) != impl.FullWait(c, n) || impl.JitteredWait(d, n, 700) != impl.JitteredWait(c, n, 700) ||
					impl.LeastWait(d, n) != impl.LeastWait(c, n) || impl.WaitSum(d, n) != impl.WaitSum(c, n) {
					t.Errorf("with %s %d the delays after %d failures differ", f.name, x, n)
				}
			}
			if impl.StepsToCap(d) != 5 || !slices.Equal(impl.Redials(d, []int{0, 1000, 0}), []int{0, 2, 4, 12}) {
				t.Errorf("with %s %d the steps or the times differ", f.name, x)
			}
		}
	}
}

func TestRedialsShareNoMemory(t *testing.T) {
	c := impl.DefaultConfig()
	draws := append(make([]int, 0, 20), 0, 1000, 0)
	whole := draws[:cap(draws)]
	for k := len(draws); k < len(whole); k++ {
		whole[k] = 77
	}
	before := slices.Clone(whole)
	times := impl.Redials(c, draws)
	if !slices.Equal(whole, before) {
		t.Errorf("Redials changed its argument: %v", whole)
	}
	again := impl.Redials(c, draws)
	for k := range times {
		times[k] = -5
	}
	if !slices.Equal(whole, before) || !slices.Equal(again, []int{0, 2, 4, 12}) {
		t.Errorf("a change of the times changes the draws %v or the other times %v", whole, again)
	}
	for k := range whole {
		whole[k] = 1000
	}
	if !slices.Equal(again, []int{0, 2, 4, 12}) {
		t.Errorf("a change of the draws changes the times: %v", again)
	}
}
