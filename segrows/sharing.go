package segrows

import (
	"slices"

	"yearbook/api"
	"yearbook/seg"
)

// Share tells whether an answer's segments share something, with one another or with those of another answer: if so, what is written to some is seen in others.
func Share(answer func() []api.Seg) bool {
	segs, others := answer(), answer()
	var want []api.Seg
	for _, s := range segs {
		want = append(want, But(s, func(s *api.Seg) {}))
	}
	for i, s := range others {
		Spoil(s)
		if !slices.EqualFunc(others[i+1:], want[i+1:], seg.Same) {
			return true
		}
	}
	clear(others)
	return !slices.EqualFunc(segs, want, seg.Same)
}

// Spoil writes to all that a segment may share, and to the room behind it.
func Spoil(s api.Seg) {
	_ = append(s.Runs, api.Run{From: 5})
	_ = append(s.Raw, 5)
	clear(s.Runs)
	clear(s.Raw)
}
