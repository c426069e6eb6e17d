// Package copies lays what is handed in out in new memory, so that no answer shares any with it.
package copies

import (
	"slices"

	"wicketgate/api"
)

// Slots are new ones.
func Slots(s api.Slots) api.Slots {
	return api.Slots{Gens: slices.Clone(s.Gens), Used: slices.Clone(s.Used), Free: slices.Clone(s.Free)}
}
