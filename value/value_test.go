package value_test

import (
	"math"
	"math/big"
	"math/rand"
	"slices"
	"testing"

	"girandole/value"
)

const (
	least = math.MinInt64
	most  = math.MaxInt64
)

var applied = [...]struct {
	op   string
	l    []int64
	want int64
}{
	{"copy", []int64{7}, 7},
	{"copy", []int64{0}, 0},
	{"copy", []int64{least}, least},
	{"neg", []int64{5}, -5},
	{"neg", []int64{-5}, 5},
	{"neg", []int64{0}, 0},
	{"neg", []int64{most}, least + 1},
	{"neg", []int64{least}, least},
	{"not", []int64{0}, 1},
	{"not", []int64{1}, 0},
	{"if", []int64{1, 5, 6}, 5},
	{"if", []int64{0, 5, 6}, 6},
	{"if", []int64{2, 5, 6}, 5},
	{"if", []int64{-1, 5, 6}, 5},
	{"if", []int64{least, 5, 6}, 5},
	{"+", []int64{2, 3}, 5},
	{"+", []int64{most, 1}, least},
	{"+", []int64{least, -1}, most},
	{"+", []int64{least, least}, 0},
	{"-", []int64{2, 3}, -1},
	{"-", []int64{least, 1}, most},
	{"-", []int64{0, least}, least},
	{"-", []int64{-1, least}, most},
	{"*", []int64{-4, 3}, -12},
	{"*", []int64{most, 2}, -2},
	{"*", []int64{least, -1}, least},
	{"*", []int64{1 << 32, 1 << 32}, 0},
	{"*", []int64{1<<32 + 1, 1<<32 + 3}, 4<<32 + 3},
	{"/", []int64{7, 2}, 3},
	{"/", []int64{-7, 2}, -3},
	{"/", []int64{7, -2}, -3},
	{"/", []int64{-7, -2}, 3},
	{"/", []int64{1, 2}, 0},
	{"/", []int64{-1, 2}, 0},
	{"/", []int64{0, -2}, 0},
	{"/", []int64{least, -1}, least},
	{"/", []int64{least, 1}, least},
	{"/", []int64{least, least}, 1},
	{"/", []int64{most, least}, 0},
	{"mod", []int64{7, 2}, 1},
	{"mod", []int64{-7, 2}, -1},
	{"mod", []int64{7, -2}, 1},
	{"mod", []int64{-7, -2}, -1},
	{"mod", []int64{6, 3}, 0},
	{"mod", []int64{1, 5}, 1},
	{"mod", []int64{-1, 5}, -1},
	{"mod", []int64{least, -1}, 0},
	{"mod", []int64{least, 3}, -2},
	{"mod", []int64{most, least}, most},
	{"mod", []int64{least, most}, -1},
}

func TestApply(t *testing.T) {
	for _, x := range applied {
		if got := value.Apply(x.op, x.l...); got != x.want {
			t.Errorf("Apply(%q, %v) = %d, want %d", x.op, x.l, got, x.want)
		}
	}
}

// TestTruths: of 0 and 0, 0 and 1, 1 and 0, 1 and 1.
func TestTruths(t *testing.T) {
	for op, want := range map[string][4]int64{
		"and": {0, 0, 0, 1},
		"or":  {0, 1, 1, 1},
		"xor": {0, 1, 1, 0},
		"=":   {1, 0, 0, 1},
		"<>":  {0, 1, 1, 0},
	} {
		for i, w := range want {
			a, b := int64(i/2), int64(i%2)
			if got := value.Apply(op, a, b); got != w {
				t.Errorf("Apply(%q, %d, %d) = %d, want %d", op, a, b, got, w)
			}
		}
	}
}

// TestCompared: each sign of two numbers of which the first is less, the same, greater.
func TestCompared(t *testing.T) {
	rising := []int64{least, least + 1, -7, -1, 0, 1, 7, most - 1, most}
	for op, want := range map[string][3]int64{
		"<":  {1, 0, 0},
		"<=": {1, 1, 0},
		">":  {0, 0, 1},
		">=": {0, 1, 1},
		"=":  {0, 1, 0},
		"<>": {1, 0, 1},
	} {
		for i, a := range rising {
			for j, b := range rising {
				w := want[1]
				if i < j {
					w = want[0]
				} else if i > j {
					w = want[2]
				}
				if got := value.Apply(op, a, b); got != w {
					t.Errorf("Apply(%q, %d, %d) = %d, want %d", op, a, b, got, w)
				}
			}
		}
	}
}

// round: a number modulo 2^64.
func round(x *big.Int) int64 {
	low := new(big.Int).And(x, new(big.Int).SetUint64(math.MaxUint64))
	return int64(low.Uint64())
}

// numberFor: small, or of any size, or at an end.
func numberFor(r *rand.Rand) int64 {
	switch r.Intn(4) {
	case 0:
		return int64(r.Intn(9) - 4)
	case 1:
		return most - int64(r.Intn(3))
	case 2:
		return least + int64(r.Intn(3))
	}
	return int64(r.Uint64()) >> r.Intn(64)
}

// TestByChance holds what divides, and what goes round, against numbers of any size.
func TestByChance(t *testing.T) {
	r := rand.New(rand.NewSource(1))
	ops := map[string]func(z, x, y *big.Int) *big.Int{
		"+": (*big.Int).Add, "-": (*big.Int).Sub, "*": (*big.Int).Mul, "/": (*big.Int).Quo, "mod": (*big.Int).Rem,
	}
	for range 20000 {
		a, b := numberFor(r), numberFor(r)
		for op, do := range ops {
			if b == 0 && (op == "/" || op == "mod") {
				continue
			}
			if got, want := value.Apply(op, a, b), round(do(new(big.Int), big.NewInt(a), big.NewInt(b))); got != want {
				t.Fatalf("Apply(%q, %d, %d) = %d, want %d", op, a, b, got, want)
			}
		}
		if got, want := value.Apply("neg", a), round(new(big.Int).Neg(big.NewInt(a))); got != want {
			t.Fatalf("Apply(neg, %d) = %d, want %d", a, got, want)
		}
	}
}

// TestNumbersStay: those that are handed in as a list.
func TestNumbersStay(t *testing.T) {
	for _, x := range applied {
		l := slices.Clone(x.l)
		value.Apply(x.op, l...)
		if !slices.Equal(l, x.l) {
			t.Errorf("Apply(%q, %v) leaves %v", x.op, x.l, l)
		}
	}
}
