package proxy_test

import (
	"fmt"

	"wicketgate/api"
	"wicketgate/proxy"
)

// An operator's line, up to its reply, as README.md tells it.
func Example() {
	p, _ := proxy.New([]api.Operator{{Name: "ann", Role: api.Governor}}, 8)
	p.Say(0, "ann 1 create acme k 100\n")
	for range 6 {
		p.Work(0)
	}
	reply, _ := p.Hear(0, 1024)
	fmt.Print(reply)
	// Output: ok 1 1 0 1 1 1
}
