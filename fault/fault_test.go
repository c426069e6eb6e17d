package fault_test

import (
	"errors"
	"testing"

	"wicketgate/api"
	"wicketgate/fault"
)

func TestNumbers(t *testing.T) {
	if fault.Of(api.OK) != nil || fault.No(nil) != api.OK || fault.Within("part", nil) != nil || fault.Unless(true, api.ErrArg) != nil {
		t.Error("nothing wrong is an error")
	}
	err := fault.Within("outer", fault.Within("inner", fault.Unless(false, api.ErrKey)))
	if fault.No(err) != api.ErrKey || !errors.Is(err, fault.Of(api.ErrKey)) || errors.Is(err, fault.Of(api.ErrArg)) {
		t.Error(err)
	}
	if err.Error() != "outer: inner: error 50" {
		t.Error(err)
	}
	if fault.No(errors.New("another")) == api.OK {
		t.Error("an error without a number is none")
	}
}

func TestBetween(t *testing.T) {
	for n, want := range map[int]api.Errno{2: api.ErrKey, 3: api.OK, 4: api.OK, 5: api.OK, 6: api.ErrKey} {
		if e := fault.No(fault.Between(n, 3, 5, api.ErrKey)()); e != want {
			t.Errorf("%d: %d", n, e)
		}
	}
}

func TestFirst(t *testing.T) {
	made := 0
	check := func(no api.Errno) func() error {
		return func() error {
			made++
			return fault.Of(no)
		}
	}
	if err := fault.First(check(0), check(api.ErrKey), check(api.ErrArg)); fault.No(err) != api.ErrKey || made != 2 {
		t.Error(err, made)
	}
	if fault.First(check(0)) != nil || fault.First() != nil {
		t.Error("no error is one")
	}
}
