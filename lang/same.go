package lang

import "slices"

// samePrograms have all fields alike: a nil list and an empty one are one thing.
func samePrograms(a, b Program) bool {
	return slices.Equal(a.Vars, b.Vars) && slices.Equal(a.Arrays, b.Arrays) &&
		slices.EqualFunc(a.Procs, b.Procs, sameProcs) && sameBlocks(a.Main, b.Main)
}

func sameProcs(a, b Proc) bool {
	return a.Name == b.Name && slices.Equal(a.Params, b.Params) && sameBlocks(a.Body, b.Body) && sameTerms(a.Return, b.Return)
}

func sameBlocks(a, b []Stmt) bool { return slices.EqualFunc(a, b, sameStatements) }

func sameStatements(a, b Stmt) bool {
	return a.Kind == b.Kind && a.Name == b.Name && a.Proc == b.Proc &&
		slices.EqualFunc(a.Args, b.Args, sameTerms) && slices.EqualFunc(a.Cond, b.Cond, sameRows) &&
		sameBlocks(a.Body, b.Body) && sameBlocks(a.Else, b.Else)
}

func sameRows(a, b []Test) bool { return slices.EqualFunc(a, b, sameTests) }

func sameTests(a, b Test) bool {
	return a.Rel == b.Rel && sameTerms(a.A, b.A) && sameTerms(a.B, b.B)
}

func sameTerms(a, b Expr) bool {
	return a.Op == b.Op && a.N == b.N && a.Name == b.Name && slices.EqualFunc(a.L, b.L, sameTerms)
}
