package copies_test

import (
	"reflect"
	"testing"

	"wicketgate/api"
	"wicketgate/copies"
)

func sample() api.Control {
	return api.Control{
		Operators: []api.Operator{{Name: "ann", Role: api.Governor}},
		Registry: api.Registry{
			Slots: api.Slots{Gens: []int{1, 0}, Used: []bool{true, false}, Free: []int{1}},
			L:     []api.Tenant{{Name: "acme", Rules: []api.Rule{{Allow: true}}, Creds: []api.Cred{{Id: 1, Key: "k"}}}},
			Seq:   3,
		},
		Pool: api.Pool{L: []api.Snap{{Cursor: 1, Items: []string{"a"}}}, Next: 2},
		Jobs: []api.Job{{Conn: 1, Phase: api.Asking}},
		Done: []api.Answered{{Who: "ann", Id: 1, Text: "ok"}},
	}
}

// A copy is the same, and nothing that is done to it is seen in what it is of.
func TestControl(t *testing.T) {
	c := sample()
	d := copies.Control(c)
	if !reflect.DeepEqual(c, d) {
		t.Errorf("%+v", d)
	}
	d.Operators[0].Name, d.Jobs[0].Conn, d.Done[0].Id = "x", 9, 9
	d.Registry.Slots.Gens[0], d.Registry.Slots.Used[0], d.Registry.Slots.Free[0] = 9, false, 9
	d.Registry.L[0].Rules[0].Allow, d.Registry.L[0].Creds[0].Key = false, "x"
	d.Pool.L[0].Items[0] = "x"
	d.Registry.L[0].Name, d.Pool.L[0].Cursor = "x", 9
	if !reflect.DeepEqual(c, sample()) {
		t.Errorf("%+v", c)
	}
}

func TestSession(t *testing.T) {
	s := api.Session{Phase: api.Ready, Name: "acme", Open: []int{1, 2}}
	d := copies.Session(s)
	if !reflect.DeepEqual(s, d) {
		t.Errorf("%+v", d)
	}
	d.Open[0] = 9
	if s.Open[0] != 1 {
		t.Error("memory is shared")
	}
}
