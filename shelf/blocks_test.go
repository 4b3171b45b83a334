package shelf

import (
	"testing"

	"recension/api"
)

// checkBlocks fails if a block is too long, if there are more blocks than parting makes, or if what is kept beside the ids does not fit them.
func checkBlocks(t *testing.T, s *Shelf) {
	t.Helper()
	all := 0
	for n, b := range s.blocks {
		if len(b.entries) > longest || len(s.blocks) > 1 && len(b.entries) < longest/2 {
			t.Fatalf("Ways: the block %d of %d has %d ids", n, len(s.blocks), len(b.entries))
		}
		seen := 0
		for _, x := range b.entries {
			if s.home[x.id] != b {
				t.Fatalf("Ways: %v is not found in the block %d, in which it stands", x.id, n)
			}
			if x.seen {
				seen++
			}
		}
		if seen != b.seen {
			t.Fatalf("Ways: the block %d has %d seen ids, and says %d", n, seen, b.seen)
		}
		all += len(b.entries)
	}
	if all != len(s.home) {
		t.Fatalf("Ways: %d ids stand in blocks, and %d have one", all, len(s.home))
	}
}

// TestBlocks goes by the length that parts a block, one id by one.
func TestBlocks(t *testing.T) {
	for _, at := range []func(n int) int{
		func(n int) int { return 0 },
		func(n int) int { return n },
		func(n int) int { return n / 2 },
		func(n int) int { return n % 2 * n },
		func(n int) int { return n * 5 % (n + 1) },
	} {
		s := New()
		for n := range 8 * longest {
			x := api.Id{Stamp: api.Stamp{T: n + 1, R: 1}}
			if s.Put(at(n), x, n%2 == 0) != api.OK || s.Show(x, n%3 == 0) != api.OK {
				t.Fatalf("the id %d", n)
			}
			checkBlocks(t, s)
			if n < longest && len(s.blocks) != 1 || n >= longest && len(s.blocks) < 2 {
				t.Fatalf("Ways: %d ids stand in %d blocks", n+1, len(s.blocks))
			}
		}
	}
}
