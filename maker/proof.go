package maker

import (
	"sort"

	"greenhew/api"
)

// Proof returns the least valid proof.
func Proof(r api.Rod, parts []api.Part, kerf int) ([]api.Worth, api.Errno) {
	if err := Check(r, parts, kerf); err != api.OK {
		return nil, err
	}
	at := lay(r, parts, kerf).rests()
	// No valid proof says less of a place than what can be cut from there on, and saying just that is valid.
	proof := []api.Worth{{From: 0, Value: at(0).price}}
	for place := 1; place <= r.Length; place++ {
		if at(place).price != at(place-1).price {
			proof = append(proof, api.Worth{From: place, Value: at(place).price})
		}
	}
	return proof, api.OK
}

// Proves returns the bound of a proof, and whether it is valid.
func Proves(r api.Rod, parts []api.Part, kerf int, proof []api.Worth) (int, bool) {
	if Check(r, parts, kerf) != api.OK || !isProof(r, proof) || !lay(r, parts, kerf).isValid(proof) {
		return 0, false
	}
	return proof[0].Value, true
}

// isProof reports whether a list is a proof, as defined for a rod.
func isProof(r api.Rod, l []api.Worth) bool {
	if len(l) == 0 || l[0].From != 0 || l[len(l)-1].Value < 0 || l[len(l)-1].From > r.Length {
		return false
	}
	for i := 1; i < len(l); i++ {
		if l[i].From <= l[i-1].From || l[i].Value > l[i-1].Value {
			return false
		}
	}
	return true
}

// isValid reports whether a proof is valid.
func (s stock) isValid(proof []api.Worth) bool {
	for part, f := range s.fits {
		for at := f.first; at <= f.last; at++ {
			behind := s.behind(api.Piece{Part: part, At: at})
			// Values can be so great that a sum would not be an int, but a difference always is.
			if s.says(proof, at)-s.says(proof, behind) < f.Price {
				return false
			}
		}
	}
	return true
}

// says returns what a proof says of a place, which may be beyond the rod.
func (s stock) says(proof []api.Worth, place int) int {
	if place > s.Length {
		return 0
	}
	later := sort.Search(len(proof), func(i int) bool { return proof[i].From > place })
	return proof[later-1].Value
}
