package vector

import (
	"slices"

	"amnesia/api"
	"amnesia/nonce"
)

// Over: is the life that speaks known to v to be over? Not where m or v may not be, or their lengths differ.
func Over(v api.Vector, m api.Voice) bool {
	if !voiceMayBe(m) || len(v) != len(m.Vector) {
		return false
	}
	return knowsOver(v, m)
}

// Consistent: may these be counted together? Then -1, -1; else the least i, and for it the least k, such that voice k knows that the life of voice i is over. ErrVector: a voice may not be, or lengths differ.
func Consistent(l ...api.Voice) (int, int, api.Errno) {
	merged, e := mergeVoices(l)
	if e != api.OK {
		return 0, 0, e
	}
	for i, m := range l {
		// The merge knows just what some voice knows, so that only of the i that is told one need ask who.
		if knowsOver(merged, m) {
			return i, firstToKnow(l, m), api.OK
		}
	}
	return -1, -1, api.OK
}

// Alive: the places, rising, of the voices that none knows to be over. ErrVector as of Consistent.
func Alive(l ...api.Voice) ([]int, api.Errno) {
	merged, e := mergeVoices(l)
	if e != api.OK {
		return nil, e
	}
	var alive []int
	for i, m := range l {
		if !knowsOver(merged, m) {
			alive = append(alive, i)
		}
	}
	return alive, api.OK
}

func voiceMayBe(m api.Voice) bool { return mayBe(m.Vector) && hasPlace(m.Vector, m.Node) }

// knowsOver asks of a voice that may be and a vector as long as its own.
func knowsOver(v api.Vector, m api.Voice) bool {
	return nonce.Compare(v[m.Node], m.Vector[m.Node]) > 0
}

// firstToKnow: the least place of a voice that knows that m's life is over.
func firstToKnow(l []api.Voice, m api.Voice) int {
	return slices.IndexFunc(l, func(other api.Voice) bool { return knowsOver(other.Vector, m) })
}

// mergeVoices: the merge of all voices' vectors. Of none there is no merge, and no error either: none at all may be counted together.
func mergeVoices(l []api.Voice) (api.Vector, api.Errno) {
	if len(l) == 0 {
		return nil, api.OK
	}
	vectors := make([]api.Vector, 0, len(l))
	for _, m := range l {
		if !voiceMayBe(m) {
			return nil, api.ErrVector
		}
		vectors = append(vectors, m.Vector)
	}
	return Merge(vectors...)
}
