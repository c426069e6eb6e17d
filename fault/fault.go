// Package fault carries an error's number through code whose steps answer an error.
package fault

import (
	"errors"
	"strconv"

	"wicketgate/api"
)

// Fault is an error that is known by its number alone, so that errors.Is finds it by what it is worth.
type Fault struct{ No api.Errno }

// Error is for who prints it.
func (f Fault) Error() string { return "error " + strconv.Itoa(int(f.No)) }

// In is an error, and the part in which it was met.
type In struct {
	Part string
	Err  error
}

// Error is for who prints it.
func (i In) Error() string { return i.Part + ": " + i.Err.Error() }

// Unwrap is what was met there.
func (i In) Unwrap() error { return i.Err }

// Of is the error of a number, and none of api.OK.
func Of(no api.Errno) error {
	if no == api.OK {
		return nil
	}
	return Fault{no}
}

// Unless is the error of a number, unless all is well.
func Unless(well bool, no api.Errno) error {
	if well {
		return nil
	}
	return Fault{no}
}

// Between is the check that a number is from the least one to the greatest one.
func Between(n int, least int, most int, no api.Errno) func() error {
	return func() error { return Unless(n >= least && n <= most, no) }
}

// Within tells in which part an error was met, if there is one.
func Within(part string, err error) error {
	if err == nil {
		return nil
	}
	return In{part, err}
}

// No is the number of an error, however it is wrapped.
func No(err error) api.Errno {
	if err == nil {
		return api.OK
	}
	var f Fault
	if errors.As(err, &f) {
		return f.No
	}
	return api.ErrArg
}

// First is the first error of some checks; those behind it are not made.
func First(checks ...func() error) error {
	for _, check := range checks {
		if err := check(); err != nil {
			return err
		}
	}
	return nil
}
