package tests

import (
	"math/big"

	"loop.example/g01217/impl"
)

// The model computes with numbers of any size, in another way than the program, so that both can be compared.

func numbersOf(p impl.Point) [4]*big.Int {
	return [4]*big.Int{big.NewInt(int64(p.A)), big.NewInt(int64(p.B)), big.NewInt(int64(p.C)), big.NewInt(int64(p.D))}
}

func zeros() [4]*big.Int { return [4]*big.Int{new(big.Int), new(big.Int), new(big.Int), new(big.Int)} }

// modelPoint is the answer of a call that should return these numbers, which fails if they are no point.
func modelPoint(numbers [4]*big.Int) answer[impl.Point] {
	limit := big.NewInt(999999)
	for _, n := range numbers {
		if n.CmpAbs(limit) > 0 {
			return failsAs[impl.Point]()
		}
	}
	return gives(pt(int(numbers[0].Int64()), int(numbers[1].Int64()), int(numbers[2].Int64()), int(numbers[3].Int64())))
}

func modelIsPoint(p impl.Point) bool { return modelPoint(numbersOf(p)).ok }

func modelSum(p impl.Point, q impl.Point, k int64) answer[impl.Point] {
	sum, other := numbersOf(p), numbersOf(q)
	for i := range sum {
		sum[i].Add(sum[i], other[i].Mul(other[i], big.NewInt(k)))
	}
	return modelPoint(sum)
}

func modelProduct(p impl.Point, q impl.Point) answer[impl.Point] {
	product := zeros()
	for i, x := range numbersOf(p) {
		for j, y := range numbersOf(q) {
			part := new(big.Int).Mul(x, y)
			if (i+j)/4%2 == 1 {
				part.Neg(part)
			}
			product[(i+j)%4].Add(product[(i+j)%4], part)
		}
	}
	return modelPoint(product)
}

// modelSign compares squares of any size, case by case.
func modelSign(plain *big.Int, root *big.Int) int {
	if plain.Sign() == 0 || plain.Sign() == root.Sign() {
		return root.Sign()
	}
	squares := new(big.Int).Mul(plain, plain)
	twice := new(big.Int).Mul(root, root)
	return plain.Sign() * squares.Cmp(twice.Lsh(twice, 1))
}

func modelCompare(s impl.Surd, t impl.Surd) int {
	plain := new(big.Int).Sub(big.NewInt(int64(s.Plain)), big.NewInt(int64(t.Plain)))
	root := new(big.Int).Sub(big.NewInt(int64(s.Root)), big.NewInt(int64(t.Root)))
	return modelSign(plain, root)
}

func modelIsSurd(s impl.Surd) bool {
	limit := big.NewInt(maxSurd)
	return big.NewInt(int64(s.Plain)).CmpAbs(limit) <= 0 && big.NewInt(int64(s.Root)).CmpAbs(limit) <= 0
}
