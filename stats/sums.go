package stats

import (
	"foolscap/api"
	"foolscap/num"
	"foolscap/wide"
)

// added adds numbers that fit. No sum of MaxArea ones, or fewer, goes too far for wide, so that there is no error to be told.
func added(l []int) api.Wide {
	var all api.Wide
	for _, n := range l {
		all, _ = wide.Add(all, n)
	}
	return all
}

func sum(l []int) (int, api.Code) { return shown(wide.Total(added(l))) }

func mean(l []int) (int, api.Code) {
	if len(l) == 0 {
		return 0, api.Div
	}
	return shown(wide.Mean(added(l), len(l)))
}

func product(l []int) (int, api.Code) {
	if len(l) == 0 {
		return 0, api.None
	}
	ahead, e := api.Unit, api.OK
	for _, n := range l {
		if ahead, e = num.Mul(ahead, n); e != api.OK {
			return shown(0, e)
		}
	}
	return ahead, api.None
}

// times tells what adds up the products of a list and of with, which may be wrong itself.
func times(with []int) func(l []int) (int, api.Code) {
	return func(l []int) (int, api.Code) {
		switch {
		case !right(with):
			return 0, api.Range
		case len(l) != len(with):
			return 0, api.Wrong
		}
		products := make([]int, len(l))
		for i := range l {
			p, e := num.Mul(l[i], with[i])
			if e != api.OK {
				return shown(0, e)
			}
			products[i] = p
		}
		return sum(products)
	}
}
