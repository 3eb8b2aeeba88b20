package plan_test

import (
	"math"
	"sync"
	"testing"

	"quitrent/api"
	"quitrent/plan"
)

// The limits as the document tells them, so that another one is found.
const (
	maxN, leastW, maxW, maxR, maxK, maxWords, head, regs = 1048576, 16, 256, 4096, 65536, 4194304, 8, 24
)

// mayBe are configurations that may be: each number at its least and at its greatest, N times W at MaxWords and just below.
var mayBe = []api.Conf{
	{N: 1, W: 16, R: 1, K: 1}, {N: 1, W: 256, R: 4096, K: 65536}, {N: 2, W: 17, R: 2, K: 2},
	{N: 100, W: 16, R: 4, K: 2000}, {N: 100, W: 16, R: 4, K: 4000}, {N: 10, W: 20, R: 2, K: 7}, {N: 3, W: 16, R: 1, K: 1}, {N: 4, W: 16, R: 2, K: 40},
	{N: 5, W: 255, R: 4095, K: 65535}, {N: 5, W: 256, R: 1, K: 1}, {N: 5, W: 16, R: 4096, K: 1}, {N: 5, W: 16, R: 1, K: 65536},
	{N: 262144, W: 16, R: 1, K: 1}, {N: 262143, W: 16, R: 4096, K: 65536}, {N: 16384, W: 256, R: 1, K: 1}, {N: 16384, W: 256, R: 4096, K: 65536},
	{N: 16383, W: 256, R: 7, K: 100}, {N: 246723, W: 17, R: 1, K: 9}, {N: 65536, W: 64, R: 4096, K: 65536}, {N: 16448, W: 255, R: 1, K: 3},
}

// mayNotBe are configurations of which at least one number is out of its bounds, or N times W is.
var mayNotBe = []api.Conf{
	{},
	{N: 0, W: 16, R: 1, K: 1}, {N: -1, W: 16, R: 1, K: 1}, {N: math.MinInt, W: 16, R: 1, K: 1},
	{N: 1, W: 15, R: 1, K: 1}, {N: 1, W: 0, R: 1, K: 1}, {N: 1, W: -16, R: 1, K: 1}, {N: 1, W: math.MinInt, R: 1, K: 1},
	{N: 1, W: 257, R: 1, K: 1}, {N: 1, W: 4194304, R: 1, K: 1}, {N: 1, W: math.MaxInt, R: 1, K: 1},
	{N: 1, W: 16, R: 0, K: 1}, {N: 1, W: 16, R: -1, K: 1}, {N: 1, W: 16, R: math.MinInt, K: 1},
	{N: 1, W: 16, R: 4097, K: 1}, {N: 1, W: 16, R: math.MaxInt, K: 1},
	{N: 1, W: 16, R: 1, K: 0}, {N: 1, W: 16, R: 1, K: -1}, {N: 1, W: 16, R: 1, K: math.MinInt},
	{N: 1, W: 16, R: 1, K: 65537}, {N: 1, W: 16, R: 1, K: math.MaxInt},
	// N times W above MaxWords, by one block, or with N at its greatest and above it.
	{N: 262145, W: 16, R: 1, K: 1}, {N: 16385, W: 256, R: 1, K: 1}, {N: 246724, W: 17, R: 1, K: 1}, {N: 16449, W: 255, R: 1, K: 1}, {N: 65537, W: 64, R: 1, K: 1},
	{N: 1048576, W: 16, R: 1, K: 1}, {N: 1048575, W: 16, R: 1, K: 1}, {N: 1048577, W: 16, R: 1, K: 1}, {N: 1048576, W: 256, R: 4096, K: 65536},
	{N: 1048577, W: 1, R: 1, K: 1}, {N: 1048576, W: 4, R: 1, K: 1}, {N: 1048577, W: 15, R: 1, K: 1},
	// Products that are small numbers, if they go round.
	{N: 1 << 60, W: 16, R: 1, K: 1}, {N: 1 << 32, W: 1 << 32, R: 1, K: 1}, {N: math.MaxInt, W: 256, R: 1, K: 1}, {N: -1, W: -16, R: 1, K: 1},
	{N: math.MaxInt, W: math.MaxInt, R: math.MaxInt, K: math.MaxInt}, {N: math.MinInt, W: math.MinInt, R: math.MinInt, K: math.MinInt},
}

// eachConf calls f with configurations that may be and others, each number below, at and above its bounds.
func eachConf(f func(api.Conf)) {
	for _, n := range []int{math.MinInt, -1, 0, 1, 2, 100, 16383, 16384, 16385, 262143, 262144, 262145, 1048575, 1048576, 1048577, math.MaxInt} {
		for _, w := range []int{math.MinInt, -1, 0, 1, 4, 8, 15, 16, 17, 20, 64, 255, 256, 257, math.MaxInt} {
			for _, r := range []int{-1, 0, 1, 2, 4095, 4096, 4097} {
				for _, k := range []int{-1, 0, 1, 2, 7, 2000, 65535, 65536, 65537} {
					f(api.Conf{N: n, W: w, R: r, K: k})
				}
			}
		}
	}
	for _, c := range mayBe {
		f(c)
	}
	for _, c := range mayNotBe {
		f(c)
	}
}

// right tells whether a configuration may be.
func right(c api.Conf) bool {
	switch {
	case c.N < 1, c.N > maxN, c.W < leastW, c.W > maxW, c.R < 1, c.R > maxR, c.K < 1, c.K > maxK:
		return false
	}
	return c.N*c.W <= maxWords
}

// byUp answers a by b, rounded up.
func byUp(a, b int) int {
	if a%b > 0 {
		return a/b + 1
	}
	return a / b
}

// numbersOf answers the numbers of a configuration that may be, as the chapter tells them.
func numbersOf(c api.Conf) plan.Numbers {
	leaves := c.W - head
	epoch := 3*c.N*(c.W+1) + 4
	drain := c.N * (c.W + 1)
	return plan.Numbers{
		Words: regs + c.R + c.N*c.W, Leaves: leaves, Blocks: leaves + 1, Fields: leaves * (c.W - 1),
		Epoch: epoch, Drain: drain, Lag: byUp(epoch, c.K)*2 + 2*(leaves+1), Settle: byUp(2*epoch+drain, c.K) + 2,
	}
}

func TestCheck(t *testing.T) {
	for _, c := range mayBe {
		if err := plan.Check(c); err != api.OK {
			t.Errorf("Check(%v): %d", c, err)
		}
	}
	for _, c := range mayNotBe {
		if err := plan.Check(c); err != api.ErrConf {
			t.Errorf("Check(%v): %d, not ErrConf", c, err)
		}
	}
}

func TestCheckAll(t *testing.T) {
	eachConf(func(c api.Conf) {
		want := api.ErrConf
		if right(c) {
			want = api.OK
		}
		if err := plan.Check(c); err != want {
			t.Errorf("Check(%v): %d, not %d", c, err, want)
		}
	})
}

func TestOf(t *testing.T) {
	for _, x := range []struct {
		c    api.Conf
		want plan.Numbers
	}{
		{api.Conf{N: 100, W: 16, R: 4, K: 2000}, plan.Numbers{Words: 1628, Leaves: 8, Blocks: 9, Fields: 120, Epoch: 5104, Drain: 1700, Lag: 24, Settle: 8}},
		{api.Conf{N: 100, W: 16, R: 4, K: 4000}, plan.Numbers{Words: 1628, Leaves: 8, Blocks: 9, Fields: 120, Epoch: 5104, Drain: 1700, Lag: 22, Settle: 5}},
		{api.Conf{N: 10, W: 20, R: 2, K: 7}, plan.Numbers{Words: 226, Leaves: 12, Blocks: 13, Fields: 228, Epoch: 634, Drain: 210, Lag: 208, Settle: 214}},
		// All at their least.
		{api.Conf{N: 1, W: 16, R: 1, K: 1}, plan.Numbers{Words: 41, Leaves: 8, Blocks: 9, Fields: 120, Epoch: 55, Drain: 17, Lag: 128, Settle: 129}},
		// K just an epoch, and one below and above it.
		{api.Conf{N: 1, W: 16, R: 1, K: 54}, plan.Numbers{Words: 41, Leaves: 8, Blocks: 9, Fields: 120, Epoch: 55, Drain: 17, Lag: 22, Settle: 5}},
		{api.Conf{N: 1, W: 16, R: 1, K: 55}, plan.Numbers{Words: 41, Leaves: 8, Blocks: 9, Fields: 120, Epoch: 55, Drain: 17, Lag: 20, Settle: 5}},
		{api.Conf{N: 1, W: 16, R: 1, K: 56}, plan.Numbers{Words: 41, Leaves: 8, Blocks: 9, Fields: 120, Epoch: 55, Drain: 17, Lag: 20, Settle: 5}},
		// K just two epochs and a draining, 127, and one below and above it.
		{api.Conf{N: 1, W: 16, R: 1, K: 126}, plan.Numbers{Words: 41, Leaves: 8, Blocks: 9, Fields: 120, Epoch: 55, Drain: 17, Lag: 20, Settle: 4}},
		{api.Conf{N: 1, W: 16, R: 1, K: 127}, plan.Numbers{Words: 41, Leaves: 8, Blocks: 9, Fields: 120, Epoch: 55, Drain: 17, Lag: 20, Settle: 3}},
		{api.Conf{N: 1, W: 16, R: 1, K: 128}, plan.Numbers{Words: 41, Leaves: 8, Blocks: 9, Fields: 120, Epoch: 55, Drain: 17, Lag: 20, Settle: 3}},
		// The most words, and the fewest and the most units.
		{api.Conf{N: 16384, W: 256, R: 4096, K: 65536}, plan.Numbers{Words: 4198424, Leaves: 248, Blocks: 249, Fields: 63240, Epoch: 12632068, Drain: 4210688, Lag: 884, Settle: 452}},
		{api.Conf{N: 16384, W: 256, R: 4096, K: 1}, plan.Numbers{Words: 4198424, Leaves: 248, Blocks: 249, Fields: 63240, Epoch: 12632068, Drain: 4210688, Lag: 25264634, Settle: 29474826}},
		{api.Conf{N: 262144, W: 16, R: 1, K: 1}, plan.Numbers{Words: 4194329, Leaves: 8, Blocks: 9, Fields: 120, Epoch: 13369348, Drain: 4456448, Lag: 26738714, Settle: 31195146}},
	} {
		if n, err := plan.Of(x.c); n != x.want || err != api.OK {
			t.Errorf("Of(%v): %+v and %d, not %+v", x.c, n, err, x.want)
		}
	}
}

func TestOfAll(t *testing.T) {
	eachConf(func(c api.Conf) {
		want, wantErr := plan.Numbers{}, api.ErrConf
		if right(c) {
			want, wantErr = numbersOf(c), api.OK
		}
		if n, err := plan.Of(c); n != want || err != wantErr {
			t.Errorf("Of(%v): %+v and %d, not %+v and %d", c, n, err, want, wantErr)
		}
	})
}

func TestPause(t *testing.T) {
	hundred := api.Conf{N: 100, W: 16, R: 4, K: 2000} // of each block 256 and 201600
	least := api.Conf{N: 1, W: 16, R: 1, K: 1}        // of each block 256 and 1700
	most := api.Conf{N: 1, W: 256, R: 1, K: 65536}    // of each block 256 and 6579200
	for _, x := range []struct {
		c                  api.Conf
		kind, blocks, want int
	}{
		{hundred, api.OpAlloc, 0, 512}, {hundred, api.OpAlloc, 1, 202368}, {hundred, api.OpAlloc, 2, 404224},
		{hundred, api.OpAlloc, 8, 1615360}, {hundred, api.OpAlloc, 9, 1817216}, {hundred, api.OpAlloc, 10, 1817216}, {hundred, api.OpAlloc, 100, 1817216},
		{hundred, api.OpAlloc, math.MaxInt, 1817216}, {hundred, api.OpAlloc, -1, 512}, {hundred, api.OpAlloc, math.MinInt, 512},
		{least, api.OpAlloc, 0, 512}, {least, api.OpAlloc, 1, 2468}, {least, api.OpAlloc, 9, 18116}, {least, api.OpAlloc, 10, 18116},
		{most, api.OpAlloc, 1, 6579968}, {most, api.OpAlloc, 248, 1631705600}, {most, api.OpAlloc, 249, 1638285056}, {most, api.OpAlloc, 250, 1638285056},
		{hundred, api.OpTick, 0, 400256}, {least, api.OpTick, 0, 456}, {most, api.OpTick, 0, 13107456}, {most, api.OpTick, 249, 13107456}, {least, api.OpTick, -7, 456},
		{hundred, api.OpLoad, 0, 512}, {hundred, api.OpLen, 9, 512}, {most, api.OpStore, 249, 512}, {least, api.OpSame, -1, 512},
		{hundred, 0, 1, 0}, {hundred, -1, 1, 0}, {hundred, 11, 1, 0}, {hundred, math.MinInt, 1, 0}, {hundred, math.MaxInt, 1, 0}, {hundred, 12, 0, 0},
		{api.Conf{}, api.OpAlloc, 1, 0}, {api.Conf{}, api.OpTick, 1, 0}, {api.Conf{}, api.OpRead, 1, 0}, {api.Conf{}, 0, 1, 0},
	} {
		if got := plan.Pause(x.c, x.kind, x.blocks); got != x.want {
			t.Errorf("Pause(%v, %d, %d): %d, not %d", x.c, x.kind, x.blocks, got, x.want)
		}
	}
}

// pauseOf answers what Pause is to answer.
func pauseOf(c api.Conf, kind, blocks int) int {
	if !right(c) || kind < 1 || kind > 10 {
		return 0
	}
	switch kind {
	case 1:
		return 512 + min(max(blocks, 0), c.W-head+1)*(256+100*(c.W+c.K))
	case 10:
		return 256 + 200*c.K
	}
	return 512
}

func TestPauseAll(t *testing.T) {
	for _, l := range [][]api.Conf{mayBe, mayNotBe} {
		for _, c := range l {
			for _, kind := range []int{math.MinInt, -10, -1, 0, 1, 2, 3, 4, 5, 6, 7, 8, 9, 10, 11, 12, 13, 1 << 32, 1<<32 + 1, math.MaxInt} {
				for _, blocks := range []int{math.MinInt, -2, -1, 0, 1, 2, 7, 8, 9, 10, 11, 12, 13, 14, 247, 248, 249, 250, 1 << 20, 1 << 50, 1 << 60, math.MaxInt} {
					if got, want := plan.Pause(c, kind, blocks), pauseOf(c, kind, blocks); got != want {
						t.Errorf("Pause(%v, %d, %d): %d, not %d", c, kind, blocks, got, want)
					}
				}
			}
		}
	}
}

func TestSheet(t *testing.T) {
	eachConf(func(c api.Conf) {
		want, wantErr := plan.Numbers{}, api.ErrConf
		if right(c) {
			want, wantErr = numbersOf(c), api.OK
		}
		s := plan.New(c)
		if s == nil {
			t.Fatalf("New(%v): nil", c)
		}
		for asked := range 4 {
			if got := s.Asked(); got != asked {
				t.Errorf("sheet of %v: asked %d times, not %d", c, got, asked)
			}
			if got := s.Conf(); got != c {
				t.Errorf("sheet of %v: Conf %v", c, got)
			}
			if n, err := s.Numbers(); n != want || err != wantErr {
				t.Errorf("sheet of %v: %+v and %d, not %+v and %d", c, n, err, want, wantErr)
			}
		}
	})
}

func TestNilSheet(t *testing.T) {
	var s *plan.Sheet
	for range 2 {
		if c := s.Conf(); c != (api.Conf{}) {
			t.Error("Conf:", c)
		}
		if n, err := s.Numbers(); n != (plan.Numbers{}) || err != api.ErrConf {
			t.Error("Numbers:", n, err)
		}
		if got := s.Asked(); got != 0 {
			t.Error("Asked:", got)
		}
	}
}

func TestSheetsAreApart(t *testing.T) {
	first, second := plan.New(mayBe[0]), plan.New(mayBe[1])
	first.Numbers()
	first.Numbers()
	if n, err := second.Numbers(); n != numbersOf(mayBe[1]) || err != api.OK {
		t.Error("the second sheet:", n, err)
	}
	if first.Asked() != 2 || second.Asked() != 1 {
		t.Error("asked", first.Asked(), "and", second.Asked(), "times, not 2 and 1")
	}
	if again := plan.New(mayBe[0]); again.Asked() != 0 {
		t.Error("a sheet of the same configuration is asked", again.Asked(), "times")
	}
}

func TestSheetIsAskedByMany(t *testing.T) {
	const callers, times = 16, 5000
	wrong := api.Conf{N: 1, W: 15, R: 1, K: 1}
	for _, x := range []struct {
		c       api.Conf
		want    plan.Numbers
		wantErr api.Errno
	}{
		{mayBe[3], numbersOf(mayBe[3]), api.OK}, {wrong, plan.Numbers{}, api.ErrConf},
	} {
		s := plan.New(x.c)
		start := make(chan struct{})
		var all sync.WaitGroup
		for range callers {
			all.Go(func() {
				<-start
				before := 0
				for i := range times {
					n, err := s.Numbers()
					if n != x.want || err != x.wantErr || s.Conf() != x.c {
						t.Errorf("sheet of %v: %+v and %d, not %+v and %d", x.c, n, err, x.want, x.wantErr)
						return
					}
					now := s.Asked()
					if now <= before || now <= i || now > callers*times {
						t.Errorf("sheet of %v: asked %d times, %d times ahead", x.c, now, before)
						return
					}
					before = now
				}
			})
		}
		close(start)
		all.Wait()
		if got := s.Asked(); got != callers*times {
			t.Errorf("sheet of %v: asked %d times, not %d", x.c, got, callers*times)
		}
	}
}

func TestMoreUnitsLessLag(t *testing.T) {
	for _, x := range mayBe {
		lag, settle := math.MaxInt, math.MaxInt
		for k := 1; k <= maxK; k++ {
			// One by one where few units are most of the difference, then by steps that meet the end.
			if k > 300 && k%97 != 0 && k < maxK-1 {
				continue
			}
			c := api.Conf{N: x.N, W: x.W, R: x.R, K: k}
			n, err := plan.Of(c)
			if err != api.OK || n.Lag > lag || n.Settle > settle {
				t.Errorf("Of(%v): %d, Lag %d and Settle %d, of fewer units %d and %d", c, err, n.Lag, n.Settle, lag, settle)
			}
			lag, settle = n.Lag, n.Settle
		}
	}
}

func TestLagIsLessThanHalf(t *testing.T) {
	for w := leastW; w <= maxW; w++ {
		least, greatest := 40*w, maxWords/w
		for _, n := range []int{least, least + 1, least + 7, (least + greatest) / 2, greatest - 1, greatest} {
			for _, k := range []int{24 * (w + 1), 24*(w+1) + 1, 25 * (w + 1), 48 * (w + 1), maxK - 1, maxK} {
				c := api.Conf{N: n, W: w, R: 1, K: k}
				if x, err := plan.Of(c); err != api.OK || x.Lag < 0 || 2*x.Lag >= n {
					t.Errorf("Of(%v): %d, Lag %d, not less than half of %d", c, err, x.Lag, n)
				}
			}
		}
	}
}
