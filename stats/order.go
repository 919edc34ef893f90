package stats

import (
	"slices"

	"foolscap/api"
	"foolscap/num"
)

func least(l []int) (int, api.Code) {
	if len(l) == 0 {
		return 0, api.None
	}
	return slices.Min(l), api.None
}

func greatest(l []int) (int, api.Code) {
	if len(l) == 0 {
		return 0, api.None
	}
	return slices.Max(l), api.None
}

// median takes the two in the midst, which are one number twice, if there are oddly many.
func median(l []int) (int, api.Code) {
	if len(l) == 0 {
		return 0, api.Range
	}
	return mean([]int{kth(l, (len(l)+1)/2), kth(l, len(l)/2+1)})
}

// mode goes through the list, not through the map, because of numbers that are there equally often the first one counts.
func mode(l []int) (int, api.Code) {
	often := make(map[int]int, len(l))
	for _, n := range l {
		often[n]++
	}
	most, times := 0, 1
	for _, n := range l {
		if often[n] > times {
			most, times = n, often[n]
		}
	}
	if times == 1 {
		return 0, api.NA
	}
	return most, api.None
}

// fromBelow tells what finds the k-th number, the least first.
func fromBelow(k int) func(l []int) (int, api.Code) {
	return func(l []int) (int, api.Code) {
		if k < 1 || k > len(l) {
			return 0, api.Range
		}
		return kth(l, k), api.None
	}
}

// fromAbove tells what finds the k-th number, the greatest first.
func fromAbove(k int) func(l []int) (int, api.Code) {
	return func(l []int) (int, api.Code) {
		if k < 1 || k > len(l) {
			return 0, api.Range
		}
		return kth(l, len(l)+1-k), api.None
	}
}

// rankOf tells what finds a number's place among others.
func rankOf(n int, rising bool) func(l []int) (int, api.Code) {
	return func(l []int) (int, api.Code) {
		switch {
		case !num.Fits(n):
			return 0, api.Range
		case !slices.Contains(l, n):
			return 0, api.NA
		}
		place := 1
		for _, other := range l {
			if rising && other < n || !rising && other > n {
				place++
			}
		}
		return place * api.Unit, api.None
	}
}
