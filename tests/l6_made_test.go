package tests

import (
	"slices"
	"testing"

	"loop.example/s01725/impl"
)

// holdGen checks Frames, Bound and Gen of a sound tree against those of another kind.
func holdGen(t *testing.T, tree impl.Tree) int64 {
	t.Helper()
	text := string(impl.PrintC(tree))
	frames := wantFrames(tree)
	if got := impl.Frames(tree); !slices.Equal(got, frames) {
		t.Fatalf("%.1500s: frames %d, want %d", text, got, frames)
	}
	bound := wantBound(tree, frames)
	if got := impl.Bound(tree); got != bound {
		t.Fatalf("%.1500s: bound %d, want %d", text, got, bound)
	}
	sameItems(t, text, impl.Gen(tree), wantGen(t, tree))
	return bound
}

func TestGenOfMadeTrees(t *testing.T) {
	deepest := int64(0)
	for seed := range uint64(1500) {
		m := newMaker(seed*37 + 2)
		tree := m.soundTree(7)
		if seed%3 > 0 {
			m.sink(&tree, 9)
		}
		deepest = max(deepest, holdGen(t, tree))
		holdGen(t, impl.Simplify(tree))
	}
	if deepest < 200 {
		t.Errorf("the largest bound is only %d", deepest)
	}
}
