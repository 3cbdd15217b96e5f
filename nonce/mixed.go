package nonce

import "amnesia/api"

// Mixed is a source of mixed numbers, that never ends.
type Mixed struct {
	state uint64
}

// NewMixed: a source by its seed.
func NewMixed(seed uint64) *Mixed {
	return &Mixed{state: seed}
}

// Draw: the next two words.
func (m *Mixed) Draw() (api.Draw, api.Errno) {
	if m == nil {
		return api.Draw{}, api.OK
	}
	hi := m.word()
	lo := m.word()
	return api.Draw{Hi: hi, Lo: lo}, api.OK
}

func (m *Mixed) word() uint64 {
	m.state += 0x9e3779b97f4a7c15
	z := m.state
	z = (z ^ z>>30) * 0xbf58476d1ce4e5b9
	z = (z ^ z>>27) * 0x94d049bb133111eb
	return z ^ z>>31
}
