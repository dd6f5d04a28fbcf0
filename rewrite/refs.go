package rewrite

import (
	"counterpane/api"
)

// plenty is how many nodes and references of a tree are taken without a look at what there is of them.
const plenty = 1 << 16

// Refs is all references of e, from the left, both ends of ranges.
func Refs(e api.Expr) []api.Ref {
	list := []api.Expr{e}
	front, whole := frontRefs(list)
	if whole {
		return front
	}
	sums, ok := weigh(list, refsWeight)
	// There is no telling all of a tree without end, nor of one that would be more than may be given if its lists lay apart.
	if !ok {
		return front
	}
	return allRefs(list, sums)
}

func refsWeight(node *api.Expr) int64 {
	return refBytes * int64(len(node.Refs))
}

// frontRefs is the references among the first nodes of list, and whether these are all.
func frontRefs(list []api.Expr) ([]api.Ref, bool) {
	var refs []api.Ref
	var w walker
	w.enter(list)
	left, whole := plenty, true
	for node := w.next(); node != nil; node = w.next() {
		n := min(len(node.Refs), left)
		refs = append(refs, copiedRefs(node.Refs[:n])...)
		left -= 1 + n
		if left < 0 {
			return refs, false
		}
		// In a tree that has no end on its left all would be spent on the way down, and nothing told of what stands beside it.
		if len(node.Kids) > 0 && len(w.open) > plenty/4 {
			whole = false
			continue
		}
		w.enter(node.Kids)
	}
	return refs, whole
}

// allRefs is the references of list; sums is what those of each list weigh.
func allRefs(list []api.Expr, sums map[place]sum) []api.Ref {
	refs := make([]api.Ref, 0, sums[placeOf(list)].total/refBytes)
	begun := map[place]int64{}
	var w walker
	w.enter(list)
	for node := w.next(); node != nil; node = w.next() {
		refs = append(refs, copiedRefs(node.Refs)...)
		if len(node.Kids) == 0 {
			continue
		}
		at := placeOf(node.Kids)
		if from, again := begun[at]; again {
			refs = append(refs, refs[from:from+sums[at].total/refBytes]...)
			continue
		}
		begun[at] = int64(len(refs))
		w.enter(node.Kids)
	}
	return refs
}
