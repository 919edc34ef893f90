package maths

import (
	"foolscap/api"
	"foolscap/num"
)

// mostTimes is how often a number is taken times itself.
const mostTimes = 1000

func power(handed two) (int, api.Errno) {
	n, k := handed[0], handed[1]
	if k%api.Unit != 0 || size(k) > mostTimes*api.Unit || n == 0 && k == 0 {
		return 0, api.ErrArg
	}
	product, e := timesItself(n, size(k)/api.Unit)
	if e != api.OK || k >= 0 {
		return product, e
	}
	return num.Div(api.Unit, product)
}

// timesItself tells n times n, one after the other, because each product is rounded.
func timesItself(n, times int) (int, api.Errno) {
	product, e := api.Unit, api.OK
	for range times {
		if product, e = num.Mul(product, n); e != api.OK {
			return 0, e
		}
	}
	return product, api.OK
}

// factorial ends as soon as the product goes too far, which it does long before the greatest number is reached.
func factorial(handed one) (int, api.Errno) {
	n := handed[0]
	if n < 0 {
		return 0, api.ErrArg
	}
	product, e := api.Unit, api.OK
	for factor := api.Unit; factor <= n; factor += api.Unit {
		if product, e = num.Mul(product, factor); e != api.OK {
			return 0, e
		}
	}
	return product, api.OK
}
