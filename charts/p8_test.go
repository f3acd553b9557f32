package charts_test

import "testing"

// TestWhichMove: point 1.
func TestWhichMove(t *testing.T) {
	wantRuns(t, []run{
		// the first one of a state, wherever its line stands
		{"state a/.on x to b/.on x to c/state b/state c/", "x", "0: a; x 0: b"},
		{"state a/.on y to b/.on x to c/.on x to b/state b/state c/", "x", "0: a; x 0: c"},
		{"state a/.state d/.on x to c/.on x to b/state b/state c/", "x", "0: a d; x 0: c"},
		// what is inside comes ahead of what is outside, also without `to`
		{"state a/.on x to b/.state d/..on x to c/state b/state c/", "x", "0: a d; x 0: c"},
		{"state a/.on x to b/.state d/..state e/...on x/state b/", "x", "0: a d e; x 0: a d e"},
		{"state a/.on x to b/.state d/..on x to c/..state e/...on y/state b/state c/", "x", "0: a d e; x 0: c"},
		{"state a/.on x to b/.state d/..state e/...on y/state b/", "x", "0: a d e; x 0: b"},
		// only active states are asked
		{"state a/.state b/.state c/..on x to d/state d/.on x to a/", "x", "0: a b; x 0: a b"},
		// each part of a parallel state is asked; what is outside of it answers once
		{"parallel p/.state a/..state c/...on x to d/..state d/.state b/..state e/...on x to f/..state f/", "x", "0: p a c b e; x 0: p a d b f"},
		{"parallel p/.state a/.state b/.state c/.on x do raise y/.on y to d/state d/.on y to e/state e/", "x", "0: p a b c; x 0: d"},
		{"parallel p/.state a/..on x do raise y/.state b/.state c/.on x do raise z/.on y to d/state d/.on z to e/state e/", "x", "0: p a b c; x 0: e"},
		// a part that does not answer does not keep the others from it
		{"parallel p/.state a/.state b/..state e/...on x to f/..state f/.state c/", "x", "0: p a b e c; x 0: p a b f c"},
	})
}

// TestDomain: point 2, what is left, which is seen by what enter lines raise again.
func TestDomain(t *testing.T) {
	wantRuns(t, []run{
		// beside one another: what they both are in is not left
		{"state a/.leave do raise l/.on l to e/.state b/..on x to c/.state c/state e/", "x", "0: a b; x 0: a c"},
		{"state a/.leave do raise l/.on l to e/.state b/..leave do raise m/..on x to c/.state c/.on m to f/state e/state f/", "x", "0: a b; x 0: f"},
		// to itself, to what it is in, to what is in it
		{"state a/.leave do raise l/.on x to a/.on l to e/state e/", "x", "0: a; x 0: e"},
		{"state a/.leave do raise l/.on l to e/.state b/..on x to a/state e/", "x", "0: a b; x 0: e"},
		{"state a/.leave do raise l/.on l to e/.on x to b/.state b/state e/", "x", "0: a b; x 0: e"},
		{"state a/.leave do raise l/.on l to e/.state b/..on x to b/state e/", "x", "0: a b; x 0: a b"},
		{"state a/.leave do raise l/.on l to e/.state b/..state c/...on x to b/state e/", "x", "0: a b c; x 0: a b c"},
		{"state a/.state b/..leave do raise l/..state c/...on x to b/.on l to e/state e/", "x", "0: a b c; x 0: e"},
		// the innermost plain one that both are in
		{"state a/.leave do raise l/.state b/..leave do raise m/..state c/...state d/....on x to f/..state f/.on m to e/.on l to e/state e/", "x", "0: a b c d; x 0: a b f"},
		{"state a/.leave do raise l/.state b/..leave do raise m/..state c/...state d/....on x to f/.state f/.on m to g/.on l to e/state e/state g/", "x", "0: a b c d; x 0: g"},
		// a parallel state is no domain: from part to part, all of it is left
		{"parallel p/.leave do raise l/.state a/..on x to c/.state b/..state d/..state c/.on l to e/state e/", "x", "0: p a b d; x 0: e"},
		{"state m/.leave do raise k/.on k to e/.parallel p/..state a/...on x to c/..state b/...state d/...state c/state e/", "x", "0: m p a b d; x 0: m p a b c"},
		{"state m/.parallel p/..state a/...on x to c/..state b/...state d/...state c/..state f/...on y to h/...state i/...state h/", "y x", "0: m p a b d f i; y 0: m p a b d f h; x 0: m p a b c f i"},
		{"parallel p/.leave do raise l/.state a/..on x to a/.on l to e/state e/", "x", "0: p a; x 0: e"},
		// without `to` nothing is left
		{"state a/.leave do raise l/.state b/..leave do raise l/..on x do raise y/.on l to e/.on y to f/state e/state f/.on l to e/", "x", "0: a b; x 0: e"},
		{"state a/.leave do raise l/.state b/..leave do raise l/..on x do raise y/.on l to e/.state c/state e/", "x", "0: a b; x 0: a b"},
	})
}

// TestClashes: point 2, which moves are taken.
func TestClashes(t *testing.T) {
	wantRuns(t, []run{
		// the first of two that leave the same, if neither is further in
		{"parallel p/.state a/..on x to d/.state b/..on x to c/state c/state d/", "x", "0: p a b; x 0: d"},
		{"parallel p/.state a/..state a1/...on x to a2/..state a2/.state b/..on x to e/state e/", "x", "0: p a a1 b; x 0: p a a2 b"},
		{"parallel p/.state b/..on x to e/.state a/..state a1/...on x to a2/..state a2/state e/", "x", "0: p b a a1; x 0: e"},
		// one further in than the other's own state has it give way
		{"parallel p/.on x to e/.state a/.state b/..state b1/...on x to b2/..state b2/state e/", "x", "0: p a b b1; x 0: p a b b2"},
		{"parallel p/.on x to e/.state b/..state b1/...on x to b2/..state b2/.state a/state e/", "x", "0: p b b1 a; x 0: p b b2 a"},
		{"parallel p/.on x to e/.state a/.state b/..on x to f/state e/state f/", "x", "0: p a b; x 0: f"},
		// with its actions
		{"parallel p/.on x to e do raise y/.state a/.state b/..state b1/...on x to b2/..state b2/...on y to b1/state e/", "x", "0: p a b b1; x 0: p a b b2"},
		// several that are inside of one that gives way
		{"parallel p/.on x to e/.state a/.state b/..state b1/...on x to b2/..state b2/.state c/..state c1/...on x to c2/..state c2/state e/", "x", "0: p a b b1 c c1; x 0: p a b b2 c c2"},
		{"parallel p/.on x to e/.state a/.state b/..on x to f/.state c/..on x to g/state e/state f/state g/", "x", "0: p a b c; x 0: f"},
		// it must be further in than each that it clashes with
		{"parallel p/.state f/..state f1/...on x to f2/..state f2/.parallel q/..on x to e/..state a/..state b/...on x to g/state e/state g/", "x", "0: p f f1 q a b; x 0: p f f2 q a b"},
		{"parallel p/.parallel q/..on x to e/..state a/..state b/...state b1/....on x to b2/...state b2/.state f/..state f1/...on x to f2/..state f2/state e/", "x", "0: p q a b b1 f f1; x 0: p q a b b2 f f2"},
		{"state o/.parallel q/..on x to e/..state a/..state b/...on x to g/.state e/state g/", "x", "0: o q a b; x 0: g"},
		{"parallel r/.state u/..state u1/...on x to u2/..state u2/.state o/..parallel q/...on x to e/...state a/...state b/....on x to g/..state e/state g/", "x", "0: r u u1 o q a b; x 0: r u u2 o e"},
		// one that does not leave anything clashes with none
		{"parallel p/.state a/..on x/.state b/..on x to d/state d/", "x", "0: p a b; x 0: d"},
		{"parallel p/.state a/..on x to d/.state b/..on x do raise y/state d/.on y to e/state e/", "x", "0: p a b; x 0: e"},
		{"parallel p/.on x do raise y/.state a/.state b/..on x to d/state d/.on y to e/state e/", "x", "0: p a b; x 0: e"},
	})
}

// TestHistories: points 3 and 5.
func TestHistories(t *testing.T) {
	const in = "state m/.on out to o/.state a/..state b/...on n to c/..state c/.state d/..state e/...on n to f/..state f/.on n to d"
	const back = "/state o/.on h to h/.on g to g/.on d to d/"
	const beside = "parallel p/.history h/.state a/..state b/...on n to c/..state c/...on q to d/...state d/...state e/.state i/..on n to k/.history g deep/.on out to o/state o/.on h to h/.on g to g/.on k to k/state k/.on h to h/"
	wantRuns(t, []run{
		// nothing kept yet
		{in + "/.history h/.history g deep" + back, "out h", "0: m a b; out 0: o; h 0: m a b"},
		{"state z/.on x to h/state m/.state a/..state b/.state c/.history h/", "x", "0: z; x 0: m a b"},
		{"state z/.on x to h/state m/.state a/..state b/.state c/.history h deep/", "x", "0: z; x 0: m a b"},
		{"state z/.on x to h/parallel p/.history h/.state a/..state b/..state c/.state d/", "x", "0: z; x 0: p a b d"},
		{"state z/.on x to h/parallel p/.state a/..state b/..state c/.state d/.history h deep/", "x", "0: z; x 0: p a b d"},
		{"state z/.on x to h/state m/.state y/.parallel p/..state a/...state b/...state c/...history h/..state d/...state e/", "x", "0: z; x 0: m p a b d e"},
		// plain: what belongs to its state directly; deep: the innermost
		{in + "/.history h/.history g deep" + back, "n out h out g", "0: m a b; n 0: m a c; out 0: o; h 0: m a b; out 0: o; g 0: m a b"},
		{in + "/.history h/.history g deep" + back, "n out g out h", "0: m a b; n 0: m a c; out 0: o; g 0: m a c; out 0: o; h 0: m a b"},
		{in + "/.history h/.history g deep" + back, "n n n out h n out g", "0: m a b; n 0: m a c; n 0: m d e; n 0: m d f; out 0: o; h 0: m d e; n 0: m d f; out 0: o; g 0: m d f"},
		// a move past the history has it keep what it keeps, until its state is left again
		{in + "/.history h/.history g deep" + back, "n out d out g", "0: m a b; n 0: m a c; out 0: o; d 0: m d e; out 0: o; g 0: m d e"},
		// in a parallel state
		{"parallel p/.state a/..state b/...on n to c/..state c/.state d/..state e/...on n to f/..state f/.history h/.history g deep/.on out to o/state o/.on h to h/.on g to g/", "n out h", "0: p a b d e; n 0: p a c d f; out 0: o; h 0: p a b d e"},
		{"parallel p/.state a/..state b/...on n to c/..state c/.state d/..state e/...on n to f/..state f/.history h/.history g deep/.on out to o/state o/.on h to h/.on g to g/", "n out g", "0: p a b d e; n 0: p a c d f; out 0: o; g 0: p a c d f"},
		// deep, through a parallel state
		{"state m/.state s/..on n to p/.parallel p/..state a/...state b/....on n to c/...state c/..state d/...state e/.history h/.history g deep/.on out to o/state o/.on h to h/.on g to g/", "n n out g out h", "0: m s; n 0: m p a b d e; n 0: m p a c d e; out 0: o; g 0: m p a c d e; out 0: o; h 0: m p a b d e"},
		// a history of an inner state: the states around are entered, and those beside it, as ever
		{"state z/.on x to h/parallel p/.state a/..state b/...on n to c/..state c/..history h/.state d/..state e/...on n to f/..state f/.on out to z/", "x n out x", "0: z; x 0: p a b d e; n 0: p a c d f; out 0: z; x 0: p a c d e"},
		// kept only if the state that the history belongs to is left
		{"state m/.state a/..state b/...on n to c/..state c/...on h to h/..history h/", "n h", "0: m a b; n 0: m a c; h 0: m a b"},
		{"state m/.state a/..state b/...on n to c/..state c/..on h to h/..history h/", "n h", "0: m a b; n 0: m a c; h 0: m a c"},
		{"parallel p/.state a/..state b/...on n to c/..state c/.on g to g/.history g deep/", "n g", "0: p a b; n 0: p a c; g 0: p a c"},
		{"parallel p/.state a/..state b/...on n to c/..state c/.on h to h/.history h/", "n h", "0: p a b; n 0: p a c; h 0: p a b"},
		// a state that was not left is not entered again
		{"state m/.enter do raise e/.state b/..on n to c/.state c/..on h to h/..on e to d/.history h/.on e/state d/", "n h", "0: m b; n 0: m c; h 0: m b"},
		{"state m/.enter do raise e/.state b/..on e to c/.state c/..on e to d/..on h to h/.history h/state d/", "h", "0: m c; h 0: m b"},
		// the histories of all states that are left keep, also of those further in
		{"state m/.state a/..state b/...on n to c/..state c/..history i/.history h/.on out to o/state o/.on i to i/.on h to h/", "n out i out h", "0: m a b; n 0: m a c; out 0: o; i 0: m a c; out 0: o; h 0: m a b"},
		// a final state is kept like others
		{"state m/.state a/..on n to f/.final f/.history h/.on out to o/state o/.on h to h/", "n out h", "0: m a; n 0: m f; out 0: o; h 0: m f"},
		{beside, "out h", "0: p a b i; out 0: o; h 0: p a b i"},
		{beside, "n h", "0: p a b i; n 0: p a c d i; h 0: p a c d i"},
	})
}

// TestDoneEvents: point 6.
func TestDoneEvents(t *testing.T) {
	const nested = "parallel p/.state a/..state a1/...on x to f1/..final f1/.parallel q/..state b/...state b1/....on y to f2/...final f2/..state c/...state c1/....on z to f3/...final f3/.on done.p to r/.on done.q to s/state r/state s/"
	wantRuns(t, []run{
		{"state a/.state b/..on x to c/.final c/.on done.a to d/state d/", "x", "0: a b; x 0: d"},
		{"state a/.state b/..on x to c/.final c/.on done.b to d/.on done.c to d/state d/", "x", "0: a b; x 0: a c"},
		// of a plain state in a plain one: that state's only
		{"state m/.state a/..state b/...on x to c/..final c/.on done.m to d/.on done.a to e/state d/state e/", "x", "0: m a b; x 0: e"},
		{"state m/.state a/..state b/...on x to c/..final c/.on done.m to d/state d/", "x", "0: m a b; x 0: m a c"},
		// of a part, then of the parallel one
		{"parallel p/.state a/..state b/...on x to c/..final c/.on done.a to d/.on done.p to e/state d/.on done.p to f/state e/state f/", "x", "0: p a b; x 0: f"},
		{"parallel p/.state a/..state b/...on x to c/..final c/.state d/..state e/...on y to f/..final f/.history h/.on done.p to g/state g/", "x y", "0: p a b d e; x 0: p a c d e; y 0: g"},
		{"parallel p/.state a/..state b/...on x to c/..final c/.state d/..state e/...on x to f/..final f/.on done.p to g/state g/", "x", "0: p a b d e; x 0: g"},
		{"parallel p/.state a/..state b/...on x to c/..final c/.state d/.on done.p to g/state g/", "x", "0: p a b d; x 0: p a c d"},
		// each final state that is entered raises, also again
		{"parallel p/.state a/..state b/...on x to c/..final c/..on w to b/.state d/..final f/.on done.a to e/state e/", "x", "0: p a b d f; x 0: e"},
		// a parallel one in a parallel one: its end counts among the parts, but raises nothing further out
		{nested, "y x", "0: p a a1 q b b1 c c1; y 0: p a a1 q b f2 c c1; x 0: p a f1 q b f2 c c1"},
		{nested, "y z", "0: p a a1 q b b1 c c1; y 0: p a a1 q b f2 c c1; z 0: s"},
		{"parallel p/.state a/..state a1/...on x to f1/..final f1/.parallel q/..state b/...state b1/....on y to f2/...final f2/.on done.p to r/state r/", "y x", "0: p a a1 q b b1; y 0: p a a1 q b f2; x 0: r"},
		{"parallel p/.state a/..state a1/...on x to f1/..final f1/.parallel q/..state b/...state b1/....on y to f2/...final f2/.on done.p to r/state r/", "x y", "0: p a a1 q b b1; x 0: p a f1 q b b1; y 0: p a f1 q b f2"},
		// at the time when it is entered, what comes behind it in the text is not active yet
		{"state z/.on x to p/parallel p/.state a/..final b/.state c/..final d/.on done.a to e/state e/.on done.p to f/state f/.on done.c to g/state g/", "x", "0: z; x 0: f"},
		{"parallel p/.state a/..final b/.state c/..final d/.on done.a to e/state e/.on done.c to f/state f/.on done.p to g/state g/.on done.p to h/state h/", "", "0: g"},
		// behind its own enter line
		{"state a/.final b/..enter do raise x/.on x to c/state c/.on done.a to d/state d/", "", "0: d"},
		// not of depth 0
		{"state a/.on x to b/state b/.final c/.on done.b to e/final e/", "x y", "0: a; x 0: e; ErrDone"},
	})
}
