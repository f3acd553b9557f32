package charts_test

import "testing"

const door = "state shut/.on open to open/state open/.after 5 to shut/.on close to shut/"

// TestExamples: the document's table of charts.
func TestExamples(t *testing.T) {
	const sides = "parallel p/.state a/..state a1/...on x to a2/..final a2/.state b/..state b1/...on y to b2/..final b2/.on done.p to e/state e/"
	const kept = "state m/.state i/..on n to k/.state k/..state k1/...on n to k2/..state k2/.history h/.history g deep/.on out to o/state o/.on h to h/.on g to g/"
	wantRuns(t, []run{
		{door, "open @4 @5", "0: shut; open 0: open; after.4 5: shut"},
		{door, "open @3 @2 @100", "0: shut; open 0: open; after.4 5: shut"},
		{sides, "y x", "0: p a a1 b b1; y 0: p a a1 b b2; x 0: e"},
		{kept, "n n out h", "0: m i; n 0: m k k1; n 0: m k k2; out 0: o; h 0: m k k1"},
		{kept, "n n out g", "0: m i; n 0: m k k1; n 0: m k k2; out 0: o; g 0: m k k2"},
		{"state a/.after 0 to b/state b/.after 0 to c/state c/", "@0", "0: a; after.2 0: b; after.4 0: c"},
		{"parallel p/.state a/..on x to c/.state b/..on x to d/state c/state d/", "x", "0: p a b; x 0: c"},
		{"state a/.on x to b/.state b/..on x/", "x", "0: a b; x 0: a b"},
		{"state a/.on x to h/.state b/..on y to c/.state c/.history h/", "y x", "0: a b; y 0: a c; x 0: a c"},
		{"state a/.state b/..on y to c/.state c/..on x to h/.history h/", "y x", "0: a b; y 0: a c; x 0: a b"},
		{"state a/.on x do raise x/", "x", "0: a; x 0: a ErrFuel"},
	})
	wantRests(t, []rest{{door, "open @3 @2 @100", 100, ""}})
}
