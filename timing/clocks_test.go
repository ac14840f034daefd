package timing_test

import (
	"math"
	"testing"

	"genlock/api"
	"genlock/timing"
)

// P4.5: the examples of the chapter, and counters at their limits.
func TestLock(t *testing.T) {
	for _, x := range []struct {
		period, wrong, step int
		through             []int
	}{
		{50, 13, 5, []int{13, 8, 3, 0}},
		{50, 40, 5, []int{40, 45, 0}},
		{50, 25, 5, []int{25, 20, 15, 10, 5, 0}},
		{50, 26, 5, []int{26, 31, 36, 41, 46, 0}},
		{51, 25, 10, []int{25, 15, 5, 0}},
		{51, 26, 10, []int{26, 36, 46, 0}},
		{50, 5, 5, []int{5, 0}},
		{50, 45, 5, []int{45, 0}},
		{50, 44, 5, []int{44, 49, 0}},
		{50, 0, 5, []int{0}},
		{50, 49, 1, []int{49, 0}},
		{50, 1, 1, []int{1, 0}},
		{1, 0, 1, []int{0}},
		{2, 1, 1, []int{1, 0}},
		{3, 1, 1, []int{1, 0}},
		{3, 2, 1, []int{2, 0}},
		{5, 3, 1, []int{3, 4, 0}},
		{50, 25, 10000000, []int{25, 0}},
		{50, 26, 10000000, []int{26, 0}},
		{10000000, 5000000, 2500000, []int{5000000, 2500000, 0}},
		{10000000, 5000001, 2500000, []int{5000001, 7500001, 0}},
		{10000000, 9999999, 1, []int{9999999, 0}},
		{10000000, 5000000, 10000000, []int{5000000, 0}},
	} {
		want(t, x, results(timing.Lock(x.period, x.wrong, x.step)), x.through, api.OK)
	}
}

// P4.5: all counters with short periods.
func TestLockOfShortPeriods(t *testing.T) {
	for period := 1; period <= 24; period++ {
		for wrong := range period {
			for step := 1; step <= period+1; step++ {
				through := []int{wrong}
				for at := wrong; at != 0; through = append(through, at) {
					if at <= period-at {
						at -= step
					} else {
						at += step
					}
					if at < 0 || at >= period {
						at = 0
					}
				}
				want(t, results(period, wrong, step), results(timing.Lock(period, wrong, step)), through, api.OK)
			}
		}
	}
}

// P4.5: at most 256 errors.
func TestLockOfManyErrors(t *testing.T) {
	for _, x := range []struct{ period, wrong, step, n int }{
		{1000, 255, 1, 256}, {1000, 745, 1, 256}, {10000000, 2550, 10, 256}, {10000000, 2541, 10, 256}, {10000000, 9997450, 10, 256},
	} {
		l, e := timing.Lock(x.period, x.wrong, x.step)
		want(t, x, results(len(l), e), x.n, api.OK)
		if len(l) == x.n {
			want(t, x, results(l[0], l[x.n-1]), x.wrong, 0)
		}
	}
	for _, x := range [][3]int{{1000, 256, 1}, {1000, 744, 1}, {10000000, 2551, 10}, {10000000, 9997449, 10}, {10000000, 5000000, 1}, {10000000, 5000001, 1}} {
		want(t, x, results(timing.Lock(x[0], x[1], x[2])), []int(nil), api.ErrMany)
	}
}

// P4.5: the errors of the arguments of Lock.
func TestErrorsOfLock(t *testing.T) {
	for _, period := range numbers(1, maxTime, api.ErrRange) {
		for _, step := range numbers(1, maxTime, api.ErrRange) {
			wantError(t, results(period.v, step.v), results(timing.Lock(period.v, 0, step.v)), firstError(period.e, step.e), []int(nil))
			for _, wrong := range []int{-1, period.v, math.MinInt, math.MaxInt} {
				want(t, results(period.v, wrong, step.v), results(timing.Lock(period.v, wrong, step.v)), []int(nil), api.ErrRange)
			}
		}
	}
	for _, wrong := range numbers(0, 49, api.ErrRange) {
		wantError(t, wrong.v, results(timing.Lock(50, wrong.v, 5)), wrong.e, []int(nil))
	}
}

// clocks are clocks with their errors.
func clocks() []given[api.Ratio] {
	return []given[api.Ratio]{
		{api.Ratio{Num: 1, Den: 1}, api.OK},
		{api.Ratio{Num: 1001, Den: 1000}, api.OK},
		{api.Ratio{Num: 100000, Den: 1}, api.OK},
		{api.Ratio{Num: 1, Den: 100000}, api.OK},
		{api.Ratio{Num: 99999, Den: 100000}, api.OK},
		{api.Ratio{}, api.ErrRange},
		{api.Ratio{Num: 1, Den: 0}, api.ErrRange},
		{api.Ratio{Num: 1, Den: -1}, api.ErrRange},
		{api.Ratio{Num: 0, Den: 1}, api.ErrRange},
		{api.Ratio{Num: -1, Den: 1}, api.ErrRange},
		{api.Ratio{Num: 100001, Den: 1}, api.ErrRange},
		{api.Ratio{Num: 1, Den: 100001}, api.ErrRange},
		{api.Ratio{Num: 1000000000, Den: 2}, api.ErrRange},
		{api.Ratio{Num: 2, Den: 1000000000}, api.ErrRange},
		{api.Ratio{Num: math.MinInt, Den: math.MinInt}, api.ErrRange},
		{api.Ratio{Num: math.MaxInt, Den: math.MaxInt}, api.ErrRange},
		{api.Ratio{Num: 2, Den: 2}, api.ErrForm},
		{api.Ratio{Num: 1000, Den: 1002}, api.ErrForm},
		{api.Ratio{Num: 0, Den: 2}, api.ErrForm},
		{api.Ratio{Num: -2, Den: 2}, api.ErrForm},
		{api.Ratio{Num: 100002, Den: 2}, api.ErrForm},
		{api.Ratio{Num: 2, Den: 100002}, api.ErrForm},
		{api.Ratio{Num: 999999999, Den: 999999999}, api.ErrForm},
	}
}

// P4.5
func TestCounted(t *testing.T) {
	for _, x := range []struct {
		r          api.Ratio
		n, counted int
	}{
		{api.Ratio{Num: 1001, Den: 1000}, 2500, 2502},
		{api.Ratio{Num: 1001, Den: 1000}, 0, 0},
		{api.Ratio{Num: 1001, Den: 1000}, 999, 999},
		{api.Ratio{Num: 1001, Den: 1000}, 1000, 1001},
		{api.Ratio{Num: 999, Den: 1000}, 1, 0},
		{api.Ratio{Num: 999, Den: 1000}, 1000, 999},
		{api.Ratio{Num: 999, Den: 1000}, 1001, 999},
		{api.Ratio{Num: 1, Den: 1}, 10000000, 10000000},
		{api.Ratio{Num: 100000, Den: 1}, 10000000, 1000000000000},
		{api.Ratio{Num: 1, Den: 100000}, 10000000, 100},
		{api.Ratio{Num: 1, Den: 100000}, 9999999, 99},
		{api.Ratio{Num: 99999, Den: 100000}, 10000000, 9999900},
	} {
		want(t, x, results(timing.Counted(x.r, x.n)), x.counted, api.OK)
	}
	for _, r := range clocks() {
		for _, n := range numbers(0, maxTime, api.ErrRange) {
			wantError(t, results(r.v, n.v), results(timing.Counted(r.v, n.v)), firstError(r.e, n.e), 0)
		}
	}
}

// P4.5
func TestSlip(t *testing.T) {
	for _, x := range []struct {
		r        api.Ratio
		limit, n int
		e        api.Errno
	}{
		{api.Ratio{Num: 1001, Den: 1000}, 3, 3000, api.OK},
		{api.Ratio{Num: 999, Den: 1000}, 3, 2001, api.OK},
		{api.Ratio{Num: 1001, Den: 1000}, 1, 1000, api.OK},
		{api.Ratio{Num: 999, Den: 1000}, 1, 1, api.OK},
		{api.Ratio{Num: 1, Den: 1}, 1, 0, api.ErrNone},
		{api.Ratio{Num: 2, Den: 1}, 1000, 1000, api.OK},
		{api.Ratio{Num: 1, Den: 2}, 1000, 1999, api.OK},
		{api.Ratio{Num: 100000, Den: 1}, 1000, 1, api.OK},
		{api.Ratio{Num: 100000, Den: 1}, 1, 1, api.OK},
		{api.Ratio{Num: 1, Den: 100000}, 1000, 1000, api.OK},
		{api.Ratio{Num: 100000, Den: 99999}, 100, 9999900, api.OK},
		{api.Ratio{Num: 100000, Den: 99999}, 101, 0, api.ErrNone},
		{api.Ratio{Num: 10001, Den: 10000}, 1000, 10000000, api.OK}, // at the last tick
		{api.Ratio{Num: 56929, Den: 56926}, 527, 0, api.ErrNone},    // it would be at 10000001
		{api.Ratio{Num: 13946, Den: 13947}, 718, 10000000, api.OK},
		{api.Ratio{Num: 13946, Den: 13947}, 719, 0, api.ErrNone},
		{api.Ratio{Num: 19999, Den: 20000}, 501, 0, api.ErrNone}, // it would be at 10000001
		{api.Ratio{Num: 19999, Den: 20000}, 500, 9980001, api.OK},
	} {
		want(t, x, results(timing.Slip(x.r, x.limit)), x.n, x.e)
	}
	for _, r := range clocks() {
		for _, limit := range numbers(1, 1000, api.ErrRange) {
			if e := firstError(r.e, limit.e); e != api.OK {
				want(t, results(r.v, limit.v), results(timing.Slip(r.v, limit.v)), 0, e)
			}
		}
	}
}

// P4.5: what clocks count, tick by tick, and where they slip.
func TestClocksTickByTick(t *testing.T) {
	d := dice(6)
	for i := 0; i < 300; {
		r := api.Ratio{Num: 1 + d.below(40), Den: 1 + d.below(40)}
		if divisor(r.Num, r.Den) > 1 {
			continue
		}
		i++
		slips := map[int]int{}
		counted, part := 0, 0 // what has been counted, and the rest in parts of Den
		for n := range 400 {
			want(t, results(r, n), results(timing.Counted(r, n)), counted, api.OK)
			for limit := 1; limit <= max(counted-n, n-counted); limit++ {
				if _, is := slips[limit]; !is {
					slips[limit] = n
				}
			}
			part += r.Num
			counted += part / r.Den
			part %= r.Den
		}
		for limit, n := range slips {
			if limit <= 1000 {
				want(t, results(r, limit), results(timing.Slip(r, limit)), n, api.OK)
			}
		}
	}
}

// divisor returns the greatest common divisor of two numbers above 0.
func divisor(a, b int) int {
	for b > 0 {
		a, b = b, a%b
	}
	return a
}
