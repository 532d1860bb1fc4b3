package feed

import "bourse/api"

// kindBase is what a message's kind is added to, to be its frame's.
const kindBase = 79

// Pack makes a message's frame.
func Pack(d api.Data) (api.Frame, api.Errno) {
	if !canBe(d) {
		return api.Frame{}, api.ErrField
	}
	return framed(d), api.OK
}

// Unpack reads a message's frame.
func Unpack(f api.Frame) (api.Data, api.Errno) {
	if f.Kind != kindBase+api.DataLevel && f.Kind != kindBase+api.DataTrade {
		return api.Data{}, api.ErrMessage
	}
	w := f.Words
	d := api.Data{Seq: w[0], Kind: int(f.Kind - kindBase), Side: int(w[1]), Price: int(w[2]), Qty: w[3], Count: int(w[4])}
	// A word that is too great for its field, or that must be 0, would not come again.
	if !canBe(d) || framed(d) != f {
		return api.Data{}, api.ErrField
	}
	return d, api.OK
}

// framed is the frame of a message that can be.
func framed(d api.Data) api.Frame {
	return api.Frame{
		Kind:  byte(kindBase + d.Kind),
		Words: [api.Words]uint64{d.Seq, uint64(d.Side), uint64(d.Price), d.Qty, uint64(d.Count)},
	}
}
