package dual

import (
	"slices"

	"raycone/wide"
)

// Form (P21) of the rows up and even of a cone of which the rays are known; what other rows there are need not be tried: each face of the cone is told by the rays on it.
// Handed rays and lines of a cone in the place of up and even, and its rows that hold one way in the place of rays, it tells the form of the rays and lines.
func Form(up, even, rays []wide.Row) (formUp, formEven []wide.Row) {
	var faces []ray
	both := slices.Clone(even)
	for _, r := range up {
		flat := placesWhere(len(rays), func(i int) bool { return r.Dot(rays[i]).Sign() == 0 })
		if flat.count() == len(rays) {
			both = append(both, r)
			continue
		}
		faces = append(faces, ray{row: r, flat: flat})
	}
	formEven = wide.Reduced(both)
	for i, f := range faces {
		if !isCovered(i, faces) {
			formUp = append(formUp, f.row.Rest(formEven))
		}
	}
	slices.SortFunc(formUp, wide.Row.Compare)
	return formUp, formEven
}

// isCovered tells whether a face lies in a greater one, or is one of those ahead of it.
func isCovered(at int, faces []ray) bool {
	flat := faces[at].flat
	for i, f := range faces {
		if i != at && flat.within(f.flat) && (i < at || !f.flat.within(flat)) {
			return true
		}
	}
	return false
}
