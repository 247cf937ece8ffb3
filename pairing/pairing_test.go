package pairing

import (
	"math"
	"reflect"
	"testing"
)

func TestFour(t *testing.T) {
	want := [][][2]int{{{0, 3}, {1, 2}}, {{0, 2}, {1, 3}}, {{0, 1}, {2, 3}}}
	if got := Rounds(4); !reflect.DeepEqual(got, want) {
		t.Error(got)
	}
	if got := Rounds(2); !reflect.DeepEqual(got, [][][2]int{{{0, 1}}}) {
		t.Error(got)
	}
	if got := Rounds(3); !reflect.DeepEqual(got, [][][2]int{{{1, 2}}, {{0, 2}}, {{0, 1}}}) {
		t.Error(got)
	}
}

func TestSoManyMayNotBe(t *testing.T) {
	for _, many := range []int{1, 0, -1, 65, math.MinInt, math.MaxInt} {
		if n, ok := Meets(many, 0, 0); Count(many) != 0 || len(Rounds(many)) != 0 || n != 0 || ok {
			t.Error(many)
		}
	}
	for _, x := range [][3]int{{4, -1, 0}, {4, 3, 0}, {4, 0, -1}, {4, 0, 4}, {5, 5, 0}, {5, 0, 5}, {4, math.MaxInt, 0}, {4, 0, math.MinInt}} {
		if n, ok := Meets(x[0], x[1], x[2]); n != 0 || ok {
			t.Error(x, n, ok)
		}
	}
}

// circled is whom one meets, by the words of the circle.
func circled(many, round, one int) (int, bool) {
	m := many + many%2
	pairs := [][2]int{{m - 1, round}}
	for k := 1; k < m/2; k++ {
		pairs = append(pairs, [2]int{(round + k) % (m - 1), (round - k + m - 1) % (m - 1)})
	}
	for _, p := range pairs {
		for k := range 2 {
			if p[k] == one && p[1-k] < many {
				return p[1-k], true
			}
		}
	}
	return 0, false
}

func TestEachMeetsEachOtherOneOnce(t *testing.T) {
	for many := 2; many <= 64; many++ {
		all := Rounds(many)
		if len(all) != Count(many) || Count(many) != many-1+many%2 {
			t.Error(many, len(all))
		}
		met := map[[2]int]int{}
		for round, pairs := range all {
			busy := map[int]int{}
			for k, p := range pairs {
				met[p]++
				busy[p[0]]++
				busy[p[1]]++
				if p[0] >= p[1] || k > 0 && pairs[k-1][0] >= p[0] {
					t.Error("not in order", many, pairs)
				}
			}
			for one := range many {
				n, ok := Meets(many, round, one)
				if m, is := circled(many, round, one); n != m || ok != is {
					t.Error("not by the circle", many, round, one)
				}
				if busy[one] > 1 || (busy[one] == 1) != ok || ok && met[[2]int{min(one, n), max(one, n)}] != 1 {
					t.Error(many, round, one)
				}
			}
		}
		if len(met) != many*(many-1)/2 {
			t.Error(many, len(met))
		}
	}
}
