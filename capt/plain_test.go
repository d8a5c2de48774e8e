package capt

import (
	"testing"

	"wireglass/api"
)

// MaxTime is below what the old kind can have, so no valid capture shows this.
func TestPlainLeavesOutTimesThatAreTooGreat(t *testing.T) {
	c := api.Capture{Faces: []api.Face{{}}, Packets: []api.Packet{{Time: 4294967296000000}, {Time: 4294967295999999}}}
	if out := plain(c); len(out.Packets) != 1 || out.Packets[0].Time != 4294967295999999 {
		t.Errorf("plain: %v", out)
	}
}
