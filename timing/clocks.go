package timing

import (
	"genlock/api"
	"genlock/common"
	"genlock/picture"
)

// Lock returns the errors through which a counter falls into step.
func Lock(period, wrong, step int) ([]int, api.Errno) {
	e := common.First(
		common.Outside(period, 1, api.MaxTime),
		common.Outside(wrong, 0, period-1),
		common.Outside(step, 1, api.MaxTime),
	)
	if e != api.OK {
		return nil, e
	}
	through := []int{wrong}
	for wrong > 0 {
		if len(through) == api.MaxList {
			return nil, api.ErrMany
		}
		wrong = corrected(period, wrong, step)
		through = append(through, wrong)
	}
	return through, api.OK
}

// Counted returns what a clock has counted after so many ticks.
func Counted(r api.Ratio, n int) (int, api.Errno) {
	if e := common.First(clockError(r), timeError(n)); e != api.OK {
		return 0, e
	}
	return n * r.Num / r.Den, api.OK
}

// Slip returns the tick at which a clock slips by a limit.
func Slip(r api.Ratio, limit int) (int, api.Errno) {
	if e := common.First(clockError(r), common.Outside(limit, 1, MaxSlip)); e != api.OK {
		return 0, e
	}
	if r.Num == r.Den {
		return 0, api.ErrNone
	}
	n := slip(r, limit)
	if n > api.MaxTime {
		return 0, api.ErrNone
	}
	return n, api.OK
}

// corrected returns the error of a counter after a frame.
func corrected(period, wrong, step int) int {
	switch {
	case 2*wrong <= period:
		return max(wrong-step, 0)
	case wrong+step >= period:
		return 0
	default:
		return wrong + step
	}
}

// slip returns the tick at which a clock slips that is not in step. Rounding down holds a clock back that is fast, which must be ahead by the whole limit, and helps one that is slow, which need only be behind by more than the limit less 1.
func slip(r api.Ratio, limit int) int {
	if fast := r.Num - r.Den; fast > 0 {
		return (limit*r.Den + fast - 1) / fast
	}
	slow := r.Den - r.Num
	return (limit-1)*r.Den/slow + 1
}

// clockError returns the error of a clock, or OK.
func clockError(r api.Ratio) api.Errno {
	return common.First(
		picture.CheckRatio(r),
		common.Outside(r.Num, 1, MaxRate),
		common.Outside(r.Den, 1, MaxRate),
	)
}
