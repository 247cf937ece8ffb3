package quorum

import (
	"math"
	"math/rand/v2"
	"pantler/api"
	"pantler/props"
	"slices"
	"testing"
)

// list are choices: of an upper letter's node one that is there by claim.
func list(letters string) []api.Choice {
	var l []api.Choice
	for _, c := range letters {
		if 'A' <= c && c <= 'Z' {
			l = append(l, api.Choice{Node: string(c + 'a' - 'A'), Primary: true})
		} else {
			l = append(l, api.Choice{Node: string(c)})
		}
	}
	return l
}

// names are nodes, a letter each.
func names(letters string) []string {
	var l []string
	for _, c := range letters {
		l = append(l, string(c))
	}
	return l
}

func TestCount(t *testing.T) {
	for k, x := range []struct {
		list, names  string
		all, primary int
	}{{"", "ab", 0, 0}, {"ABc", "", 0, 0}, {"ABc", "abc", 3, 2}, {"ABc", "cxc", 1, 0}, {"AaB", "a", 2, 1}, {"AaB", "aa", 2, 1}} {
		if all, primary := Count(list(x.list), names(x.names)); all != x.all || primary != x.primary {
			t.Error(k, all, primary)
		}
	}
}

func TestWrite(t *testing.T) {
	for k, x := range []struct {
		w, pw         int
		list, yes, no string
		want          int
	}{
		{2, 0, "ABC", "", "", api.Waits},
		{2, 0, "ABC", "a", "", api.Waits},
		{2, 0, "ABC", "ac", "", api.Met},
		{2, 0, "ABC", "ac", "b", api.Met},
		{2, 0, "ABC", "", "ab", api.Unmet},
		{2, 0, "ABC", "a", "bc", api.Unmet},
		{2, 0, "ABC", "a", "b", api.Waits},
		{2, 0, "ABC", "xy", "", api.Waits},
		{2, 0, "ABC", "aa", "", api.Waits},
		{2, 0, "ABC", "", "xyz", api.Waits},
		{2, 0, "A", "", "", api.Unmet},
		{2, 0, "", "", "", api.Unmet},
		{0, 0, "", "", "", api.Met},
		{-1, -1, "AB", "", "", api.Met},
		{1, 1, "Abc", "b", "", api.Waits},
		{1, 1, "Abc", "bc", "", api.Waits},
		{1, 1, "Abc", "a", "", api.Met},
		{1, 1, "Abc", "bc", "a", api.Unmet},
		{3, 1, "Abc", "a", "", api.Waits},
		{1, 2, "Abc", "abc", "", api.Unmet},
		{2, 2, "AaB", "a", "", api.Waits},
		{2, 1, "AaB", "a", "", api.Met},
		{1, 0, "AB", "a", "a", api.Met},
		{math.MaxInt, 0, "AB", "", "", api.Unmet},
		{math.MinInt, math.MaxInt, "AB", "ab", "", api.Unmet},
	} {
		if got := Write(api.Props{W: x.w, PW: x.pw}, list(x.list), names(x.yes), names(x.no)); got != x.want {
			t.Error(k, got)
		}
	}
}

func TestRead(t *testing.T) {
	const missingCounts, basic = 1, 2
	for k, x := range []struct {
		r, pr, flags             int
		list, found, missing, no string
		want                     int
	}{
		{2, 0, missingCounts, "ABC", "", "", "", api.Waits},
		{2, 0, missingCounts, "ABC", "a", "", "", api.Waits},
		{2, 0, missingCounts, "ABC", "a", "b", "", api.Met},
		{2, 0, missingCounts, "ABC", "", "ab", "", api.Absent},
		{2, 0, missingCounts, "ABC", "c", "ab", "", api.Met},
		{2, 0, missingCounts, "ABC", "a", "a", "", api.Waits},
		{2, 0, missingCounts, "ABC", "", "", "ab", api.Unmet},
		{2, 0, missingCounts, "ABC", "", "", "a", api.Waits},
		{2, 0, 0, "ABC", "a", "b", "", api.Waits},
		{2, 0, 0, "ABC", "a", "bc", "", api.Unmet},
		{2, 0, 0, "ABC", "", "ab", "", api.Unmet},
		{2, 0, 0, "ABC", "", "a", "", api.Waits},
		{2, 0, basic, "ABC", "", "ab", "", api.Absent},
		{2, 0, basic, "ABC", "c", "ab", "", api.Unmet},
		{2, 0, basic, "ABC", "", "a", "", api.Waits},
		{2, 0, basic, "ABCD", "", "ab", "", api.Waits},
		{2, 0, basic, "ABCD", "", "abc", "", api.Absent},
		{2, 0, basic, "AAbc", "", "a", "", api.Waits},
		{2, 0, basic, "AAb", "", "a", "", api.Absent},
		{3, 0, basic | missingCounts, "ABC", "", "ab", "", api.Absent},
		{3, 0, basic | missingCounts, "ABC", "x", "ab", "", api.Absent},
		{3, 0, missingCounts, "ABC", "", "ab", "", api.Waits},
		{1, 1, missingCounts, "Abc", "b", "", "", api.Waits},
		{1, 1, missingCounts, "Abc", "b", "a", "", api.Met},
		{1, 1, missingCounts, "Abc", "bc", "", "a", api.Unmet},
		{1, 1, 0, "Abc", "b", "a", "", api.Unmet},
		{1, 0, 0, "", "", "", "", api.Unmet},
		{0, 0, 0, "", "", "", "", api.Absent},
		{0, 0, 0, "A", "a", "", "", api.Met},
		{0, 0, 0, "A", "x", "", "", api.Absent},
		{-5, -5, 0, "A", "", "", "", api.Absent},
		{1, 0, basic, "", "", "", "", api.Unmet},
		{math.MaxInt, 0, missingCounts, "AB", "a", "", "", api.Unmet},
	} {
		p := api.Props{R: x.r, PR: x.pr, Missing: x.flags&missingCounts > 0, Basic: x.flags&basic > 0}
		if got := Read(p, list(x.list), names(x.found), names(x.missing), names(x.no)); got != x.want {
			t.Error(k, got)
		}
	}
}

// answers are nodes of a list, shared out among so many kinds of answers; those of the last kind did not answer.
func answers(r *rand.Rand, l []api.Choice, kinds int) [][]string {
	all := make([][]string, kinds)
	for _, x := range l {
		k := r.IntN(kinds)
		all[k] = append(all[k], x.Node)
	}
	return all
}

func TestWhatFollows(t *testing.T) {
	r := rand.New(rand.NewPCG(35, 36))
	for range 5000 {
		letters := []byte("abcde")[:r.IntN(6)]
		for k := range letters {
			if r.IntN(2) == 0 {
				letters[k] -= 'a' - 'A'
			}
		}
		l := list(string(letters))
		n := 1 + r.IntN(5)
		p := api.Props{N: n, R: 1 + r.IntN(n), W: 1 + r.IntN(n), PR: r.IntN(n + 1), PW: r.IntN(n + 1), Missing: r.IntN(2) == 0, Basic: r.IntN(2) == 0}
		w, x := answers(r, l, 3), answers(r, l, 4)
		write, read := Write(p, l, w[0], w[1]), Read(p, l, x[0], x[1], x[2])
		if write == api.Waits && len(w[2]) == 0 || read == api.Waits && len(x[3]) == 0 {
			t.Fatal("somebody waits, though nothing is open", p, l, w, x)
		}
		if write == api.Met && Write(p, l, slices.Concat(w[0], w[2]), w[1]) != api.Met {
			t.Fatal("more answers are not enough", p, l, w)
		}
		if read == api.Met && Read(p, l, slices.Concat(x[0], x[3]), x[1], x[2]) != api.Met {
			t.Fatal("more answers are not enough", p, l, x)
		}
		_, primaries := Count(l, names("abcde"))
		p.Basic = false
		read = Read(p, l, x[0], x[1], x[2])
		if primaries <= p.N && props.Strict(p) && write == api.Met && (read == api.Met || read == api.Absent) {
			meets := slices.ContainsFunc(l, func(c api.Choice) bool {
				return c.Primary && slices.Contains(w[0], c.Node) && (slices.Contains(x[0], c.Node) || p.Missing && slices.Contains(x[1], c.Node))
			})
			if !meets {
				t.Fatal("strict, but they do not meet", p, l, w, x)
			}
		}
	}
}
