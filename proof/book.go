package proof

import (
	"iter"

	"raycone/api"
	"raycone/farkas"
	"raycone/flow"
	"raycone/hull"
)

// ways of rows, each of which wants a proof: a row with Eq goes as it is, then turned.
func ways(rows []api.Row) iter.Seq[api.Row] {
	return func(see func(r api.Row) bool) {
		for _, r := range rows {
			if !see(api.Row{A: r.A, B: r.B}) || r.Eq && !see(turned(r)) {
				return
			}
		}
	}
}

func turned(r api.Row) api.Row {
	t := api.Row{A: make([]int, len(r.A)), B: -r.B}
	for i, n := range r.A {
		t.A[i] = -n
	}
	return t
}

// zeros: so many variables are all 0.
func zeros(many int) api.Poly {
	p := api.Poly{Dim: many, Rows: make([]api.Row, many)}
	for x := range many {
		a := make([]int, many)
		a[x] = 1
		p.Rows[x] = api.Row{Eq: true, A: a}
	}
	return p
}

// fits: are there as many proofs as there must be?
func (b Book) fits(g flow.Graph, t []api.Poly) bool {
	if len(b.Edges) != len(g.Edges) || len(b.First) != count(t[0]) {
		return false
	}
	for i, e := range g.Edges {
		if len(b.Edges[i]) != count(t[e.To]) {
			return false
		}
	}
	return true
}

// count of proofs that a polyhedron wants.
func count(p api.Poly) int {
	n := 0
	for range ways(p.Rows) {
		n++
	}
	return n
}

// proves: does a book that fits prove what is made along the edges, if it is told? If not, it is told of which edge.
func (b Book) proves(g flow.Graph, c hull.Choice, t, made []api.Poly) (int, bool) {
	if !allProve(zeros(len(c)), t[0], b.First) {
		return -1, false
	}
	for i, p := range made {
		if !allProve(p, t[g.Edges[i].To], b.Edges[i]) {
			return i, false
		}
	}
	return -1, true
}

// allProve: of q, each way of a row has its proof from p.
func allProve(p, q api.Poly, l []farkas.Proof) bool {
	i := 0
	for r := range ways(q.Rows) {
		if !farkas.Proves(p, r, l[i]) {
			return false
		}
		i++
	}
	return true
}

// bookOf a table that holds, by what is made along all edges.
func bookOf(g flow.Graph, c hull.Choice, t, made []api.Poly) (Book, error) {
	first, err := proofs(zeros(len(c)), t[0])
	if err != nil {
		return Book{}, err
	}
	b := Book{First: first, Edges: make([][]farkas.Proof, len(made))}
	for i, p := range made {
		if b.Edges[i], err = proofs(p, t[g.Edges[i].To]); err != nil {
			return Book{}, err
		}
	}
	return b, nil
}

// proofs from p of each way of a row of q.
func proofs(p, q api.Poly) ([]farkas.Proof, error) {
	var l []farkas.Proof
	for r := range ways(q.Rows) {
		f, is, err := farkas.Follow(p, r)
		switch {
		case err != nil:
			return nil, err
		case !is:
			return nil, api.ErrProof
		}
		l = append(l, f)
	}
	return l, nil
}

// follows: is there a proof of each way of a row?
func follows(p api.Poly, r api.Row) (bool, error) {
	all := true
	for way := range ways([]api.Row{r}) {
		_, is, err := farkas.Follow(p, way)
		if err != nil {
			return false, err
		}
		all = all && is
	}
	return all, nil
}
