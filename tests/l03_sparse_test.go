package tests

import (
	"maps"
	"math/big"
	"slices"

	"loop.example/g00870/impl"
)

// sparse is a polynomial without limits: it has the coefficients, which may be 0, by exponents.
type sparse map[int64]*big.Int

func sparseOf(p impl.Laurent) sparse {
	s := sparse{}
	for i, x := range p.Terms {
		s[p.Low+int64(i)] = big.NewInt(x)
	}
	return s
}

func (s sparse) add(exponent int64, x *big.Int) {
	if s[exponent] == nil {
		s[exponent] = new(big.Int)
	}
	s[exponent].Add(s[exponent], x)
}

func (s sparse) plus(r sparse) sparse {
	sum := sparse{}
	for _, part := range []sparse{s, r} {
		for e, x := range part {
			sum.add(e, x)
		}
	}
	return sum
}

func (s sparse) times(r sparse) sparse {
	product := sparse{}
	for e, x := range s {
		for f, y := range r {
			product.add(e+f, new(big.Int).Mul(x, y))
		}
	}
	return product
}

// size returns the sum of the absolute values of the coefficients.
func (s sparse) size() *big.Int {
	sum := new(big.Int)
	for _, x := range s {
		sum.Add(sum, new(big.Int).Abs(x))
	}
	return sum
}

// form returns the valid form, or false if there is none.
func (s sparse) form() (impl.Laurent, bool) {
	var used []int64
	for _, e := range slices.Sorted(maps.Keys(s)) {
		if s[e].Sign() == 0 {
			continue
		}
		if e < -impl.MaxExponent || e > impl.MaxExponent || new(big.Int).Abs(s[e]).Cmp(big.NewInt(impl.MaxEntry)) > 0 {
			return impl.Laurent{}, false
		}
		used = append(used, e)
	}
	if len(used) == 0 {
		return impl.Laurent{}, true
	}
	low, n := used[0], used[len(used)-1]-used[0]+1
	if n > impl.MaxTerms {
		return impl.Laurent{}, false
	}
	p := laurentOf(low, repeated(0, int(n))...)
	for _, e := range used {
		p.Terms[e-low] = s[e].Int64()
	}
	return p, true
}
