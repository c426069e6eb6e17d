package roles_test

import (
	"math"
	"slices"
	"strconv"
	"strings"
	"testing"

	"wicketgate/api"
	"wicketgate/roles"
)

var (
	roleWords = []string{"", "viewer", "keeper", "governor"}
	verbWords = []string{"", "create", "suspend", "resume", "drain", "delete", "rotate", "acl", "kill", "list", "show"}
	strange   = []int{math.MinInt, -64, -1, 0, 11, 63, 64, 65, 1 << 32, math.MaxInt}
)

// P12.1: words of roles and verbs.
func TestP12_1Words(t *testing.T) {
	for n := 1; n <= 3; n++ {
		if r, e := roles.Role(roleWords[n]); r != n || e != api.OK {
			t.Errorf("%s: %d %d", roleWords[n], r, e)
		}
	}
	for n := 1; n <= 10; n++ {
		v, e := roles.Verb(verbWords[n])
		w, e2 := roles.Word(n)
		if v != n || e != api.OK || w != verbWords[n] || e2 != api.OK {
			t.Errorf("%s: %d %d %s %d", verbWords[n], v, e, w, e2)
		}
	}
	for _, w := range []string{"", "Viewer", "viewer ", "view", "list1", "LIST", "\xff", "none", "0", "1"} {
		if r, e := roles.Role(w); r != 0 || e != api.ErrRole {
			t.Errorf("Role(%q): %d %d", w, r, e)
		}
		if v, e := roles.Verb(w); v != 0 || e != api.ErrVerb {
			t.Errorf("Verb(%q): %d %d", w, v, e)
		}
	}
	if _, e := roles.Role("list"); e != api.ErrRole {
		t.Error("a verb is a role")
	}
	if _, e := roles.Verb("keeper"); e != api.ErrVerb {
		t.Error("a role is a verb")
	}
	for _, n := range strange {
		if w, e := roles.Word(n); w != "" || e != api.ErrVerb {
			t.Errorf("Word(%d): %q %d", n, w, e)
		}
	}
}

// P12.1: what each role may.
func TestP12_1May(t *testing.T) {
	may := [][]int{nil, {9, 10}, {2, 3, 4, 8, 9, 10}, {1, 2, 3, 4, 5, 6, 7, 8, 9, 10}}
	for role := 1; role <= 3; role++ {
		l := roles.Verbs(role)
		if !slices.Equal(l, may[role]) {
			t.Errorf("Verbs(%d): %v", role, l)
		}
		l[0] = 77
		for verb := 1; verb <= 10; verb++ {
			if roles.May(role, verb) != slices.Contains(may[role], verb) {
				t.Errorf("May(%d, %d)", role, verb)
			}
		}
		for _, n := range strange {
			if roles.May(role, n) {
				t.Errorf("May(%d, %d)", role, n)
			}
		}
	}
	for _, role := range append([]int{4}, strange...) {
		if len(roles.Verbs(role)) != 0 || roles.May(role, api.List) || roles.May(role, 0) {
			t.Errorf("role %d", role)
		}
	}
}

// P12.2: operators that are right, and the role of one.
func TestP12_2(t *testing.T) {
	ann, bob := api.Operator{Name: "ann", Role: api.Governor}, api.Operator{Name: "b o\"b", Role: api.Viewer}
	var ten []api.Operator
	for i := range 10 {
		ten = append(ten, api.Operator{Name: "o" + strconv.Itoa(i), Role: 1 + i%3})
	}
	for _, l := range [][]api.Operator{nil, {}, {ann}, {ann, bob}, ten, {{Name: strings.Repeat("n", 64), Role: api.Keeper}}} {
		if !roles.Right(l) {
			t.Errorf("%v are wrong", l)
		}
		for _, o := range l {
			if r, e := roles.Find(l, o.Name); r != o.Role || e != api.OK {
				t.Errorf("Find(%q): %d %d", o.Name, r, e)
			}
		}
		for _, name := range []string{"", "Ann", "ann ", "o", "carl"} {
			if r, e := roles.Find(l, name); r != 0 || e != api.ErrRole {
				t.Errorf("Find(%q): %d %d", name, r, e)
			}
		}
	}
	for _, l := range [][]api.Operator{
		append(slices.Clone(ten), ann), {ann, ann}, {ann, bob, {Name: "ann", Role: api.Viewer}}, {ann, {Role: api.Viewer}}, {ann, {Name: strings.Repeat("n", 65), Role: api.Viewer}},
		{ann, {Name: "a\n", Role: api.Viewer}}, {ann, {Name: "é", Role: api.Viewer}}, {ann, {Name: "x"}}, {ann, {Name: "x", Role: 4}}, {ann, {Name: "x", Role: -1}}, {{Name: "x", Role: math.MaxInt}, ann},
	} {
		if r, e := roles.Find(l, "ann"); roles.Right(l) || r != 0 || e != api.ErrRole {
			t.Errorf("%v are right: %d %d", l, r, e)
		}
	}
}

// P12.3: who has a greater role may all that one with a lesser one may.
func TestP12_3(t *testing.T) {
	for role := 1; role < 3; role++ {
		for _, verb := range roles.Verbs(role) {
			if !roles.May(role+1, verb) {
				t.Errorf("%d may not %d", role+1, verb)
			}
		}
		if len(roles.Verbs(role)) >= len(roles.Verbs(role+1)) {
			t.Errorf("%d may no more than %d", role+1, role)
		}
	}
	for verb := 1; verb <= 10; verb++ {
		w, _ := roles.Word(verb)
		if v, e := roles.Verb(w); v != verb || e != api.OK {
			t.Error(verb, w, v, e)
		}
	}
}
