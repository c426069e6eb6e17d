// Package check asks whether all of some checks hold. One is made just if those ahead of it hold, so that it may build on them.
package check

// All asks checks of whatever they are about.
func All(checks ...func() bool) bool {
	for _, holds := range checks {
		if !holds() {
			return false
		}
	}
	return true
}

// Of asks checks of one thing.
func Of[T any](x T, checks ...func(T) bool) bool {
	for _, holds := range checks {
		if !holds(x) {
			return false
		}
	}
	return true
}
