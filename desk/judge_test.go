package desk

import (
	"testing"

	"gimbal/api"
)

// TestBroken tells the ghost what no world would.
func TestBroken(t *testing.T) { // P25.1
	d := &desk{left: allRounds}
	d.line("group 1 5")
	d.ghost.Told(1, 1, 7, api.Res{})
	d.line("judge")
	d.line("group 1 5")
	d.line("judge")
	if got := d.out.String(); got != "ok\nbroken 4 7\nok\nfine 0\n" {
		t.Error(got)
	}
}
