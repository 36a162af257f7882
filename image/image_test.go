package image

import (
	"slices"
	"testing"

	"lintel/api"
)

func TestUsableHashes(t *testing.T) {
	for _, c := range []struct {
		f    api.Fuses
		want []string
	}{
		{api.Fuses{}, nil},
		{api.Fuses{Usable: []bool{true, false, true, true}, Hashes: []string{"a", "b", "c", "d"}}, []string{"a", "c", "d"}},
		{api.Fuses{Usable: []bool{true, true, true}, Hashes: []string{"a"}}, []string{"a"}},
		{api.Fuses{Usable: []bool{false, true}, Hashes: []string{"a", "b", "c"}}, []string{"b"}},
	} {
		if got := slices.Collect(usableHashes(c.f)); !slices.Equal(got, c.want) {
			t.Errorf("%+v: %q, want %q", c.f, got, c.want)
		}
	}
}

func TestUsableHashesStopWhenAsked(t *testing.T) {
	// An iterator that goes on behind a break panics.
	for range usableHashes(api.Fuses{Usable: []bool{true, true}, Hashes: []string{"a", "b"}}) {
		break
	}
}
