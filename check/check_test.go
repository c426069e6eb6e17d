package check_test

import (
	"testing"

	"wicketgate/check"
)

func TestAll(t *testing.T) {
	made := 0
	one := func(holds bool) func() bool {
		return func() bool {
			made++
			return holds
		}
	}
	if !check.All() || !check.All(one(true), one(true)) || check.All(one(true), one(false), one(true)) || made != 4 {
		t.Error(made)
	}
}

func TestOf(t *testing.T) {
	made := 0
	above := func(least int) func(int) bool {
		return func(n int) bool {
			made++
			return n > least
		}
	}
	if !check.Of(5) || !check.Of(5, above(3), above(4)) || check.Of(5, above(4), above(5), above(3)) || made != 4 {
		t.Error(made)
	}
}
