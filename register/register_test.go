package register

import (
	"pantler/api"
	"strings"
	"testing"
)

func reg(n int, by, value string) api.Reg { return api.Reg{N: n, By: by, Value: value} }

// rising are registers, each newer than those ahead.
func rising() []api.Reg {
	return []api.Reg{reg(-1, "z", "z"), {}, reg(0, "", "a"), reg(0, "a", ""), reg(1, "", ""), reg(1, "", "b"), reg(1, "a", "a"), reg(1, "a", "ab"), reg(1, "a", "b"), reg(1, "ab", ""), reg(1, "b", ""), reg(2, "", ""), reg(10, "a", ""), reg(api.MaxVersion, "", "")}
}

func TestCheck(t *testing.T) {
	long := strings.Repeat("v", api.MaxValue)
	for _, a := range []api.Reg{reg(1, "", ""), reg(1, "n1", "x"), reg(api.MaxVersion, "abcdefghijklmnop", long)} {
		if Check(a) != api.OK {
			t.Error(a)
		}
	}
	for _, a := range []api.Reg{{}, reg(0, "a", "x"), reg(-1, "", ""), reg(api.MaxVersion+1, "", ""), reg(1, "A", ""), reg(1, "abcdefghijklmnopq", ""), reg(1, "a", long+"v")} {
		if Check(a) != api.ErrArg {
			t.Error(a)
		}
	}
}

func TestNewerAndJoin(t *testing.T) {
	for k, a := range rising() {
		for m, b := range rising() {
			if Newer(a, b) != (k > m) {
				t.Error(a, b)
			}
			if Join(a, b) != rising()[max(k, m)] {
				t.Error(a, b)
			}
			for _, c := range rising() {
				if Join(Join(a, b), c) != Join(a, Join(b, c)) {
					t.Error(a, b, c)
				}
			}
		}
	}
}

func TestNext(t *testing.T) {
	if a, e := Next(api.Reg{}, "n1", "x"); e != api.OK || a != reg(1, "n1", "x") {
		t.Error(a, e)
	}
	long := strings.Repeat("v", api.MaxValue)
	for _, was := range []api.Reg{{}, reg(1, "z", "zz"), reg(7, "", ""), reg(api.MaxVersion-1, "a", "b")} {
		a, e := Next(was, "n1", long)
		if e != api.OK || a != reg(was.N+1, "n1", long) || !Newer(a, was) || Join(was, a) != a || Check(a) != api.OK {
			t.Error(was, a, e)
		}
	}
}

func TestNextRefuses(t *testing.T) {
	long := strings.Repeat("v", api.MaxValue+1)
	last := reg(api.MaxVersion, "a", "b")
	for k, x := range []struct {
		was       api.Reg
		by, value string
		e         api.Errno
	}{
		{reg(0, "a", ""), "n1", "", api.ErrArg},
		{reg(0, "", "x"), "n1", "", api.ErrArg},
		{reg(-1, "", ""), "n1", "", api.ErrArg},
		{reg(1, "A", ""), "n1", "", api.ErrArg},
		{reg(1, "", long), "n1", "", api.ErrArg},
		{reg(api.MaxVersion+1, "", ""), "n1", "", api.ErrArg},
		{api.Reg{}, "", "", api.ErrArg},
		{api.Reg{}, "N", "", api.ErrArg},
		{api.Reg{}, "n1", long, api.ErrArg},
		{last, "n1", "x", api.ErrLong},
		{last, "", "x", api.ErrArg},
		{last, "n1", long, api.ErrArg},
	} {
		if a, e := Next(x.was, x.by, x.value); e != x.e || a != (api.Reg{}) {
			t.Error(k, a, e)
		}
	}
}
