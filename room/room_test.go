package room

import (
	"math/big"
	"testing"

	"quotaledger/api"
)

// edges: numbers whose sums and products have just room, or just none.
var edges = []uint64{0, 1, 2, 3, 5, 17, 1<<31 - 1, 1 << 31, 1<<32 - 1, 1 << 32, 1<<32 + 1, 1<<63 - 1, 1 << 63, 1<<63 + 1, api.Never / 3, api.Never/3 + 1, api.Never - 1, api.Never}

// fits is the number, if it has room; else 0.
func fits(v *big.Int) (uint64, bool) {
	if !v.IsUint64() {
		return 0, false
	}
	return v.Uint64(), true
}

func TestSumsAndProductsHaveRoomOrNone(t *testing.T) {
	for _, a := range edges {
		for _, b := range edges {
			x, y := new(big.Int).SetUint64(a), new(big.Int).SetUint64(b)
			sum, has := fits(new(big.Int).Add(x, y))
			if v, ok := Sum(a, b); v != sum || ok != has {
				t.Errorf("Sum(%d, %d) = %d, %v; want %d, %v", a, b, v, ok, sum, has)
			}
			if !has {
				sum = api.Never
			}
			if v := SumOrNever(a, b); v != sum {
				t.Errorf("SumOrNever(%d, %d) = %d, want %d", a, b, v, sum)
			}
			product, has := fits(new(big.Int).Mul(x, y))
			if v, ok := Product(a, b); v != product || ok != has {
				t.Errorf("Product(%d, %d) = %d, %v; want %d, %v", a, b, v, ok, product, has)
			}
		}
	}
}
