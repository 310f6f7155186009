// Package prime has numbers of a field.
package prime

import (
	"pairstone/api"
)

// Of any number.
func Of(n int) int {
	r := n % api.P
	if r < 0 {
		return r + api.P
	}
	return r
}

// Add two. Each is brought into the field first, so that no sum wraps round.
func Add(a, b int) int { return Of(Of(a) + Of(b)) }

// Sub takes away.
func Sub(a, b int) int { return Of(Of(a) - Of(b)) }

// Mul two. Each is brought into the field first, so that no product wraps round.
func Mul(a, b int) int { return Of(Of(a) * Of(b)) }

// Inv is the inverse.
func Inv(a int) (int, error) {
	if Of(a) == 0 {
		return 0, api.ErrNone
	}
	// By Fermat, a to the power P - 1 is 1.
	return power(a, api.P-2), nil
}

// Pow is a power.
func Pow(a, n int) (int, error) {
	if n < 0 {
		return 0, api.ErrRange
	}
	return power(a, n), nil
}

// Sqrt is the lesser root.
func Sqrt(a int) (int, error) {
	// P is 3 modulo 4: if a has a root, this power of it is one.
	r := power(a, (api.P+1)/4)
	if Mul(r, r) != Of(a) {
		return 0, api.ErrNone
	}
	return min(r, Sub(0, r)), nil
}

// power goes along the bits of n, so that a great n takes no longer than its bits; n is not below 0.
func power(a, n int) int {
	product, square := 1, Of(a)
	for n > 0 {
		if n%2 == 1 {
			product = Mul(product, square)
		}
		square = Mul(square, square)
		n /= 2
	}
	return product
}
