package avl_test

import (
	"slices"
	"strconv"
	"testing"

	"bourse/avl"
)

func TestP7_7WhateverIsPutAndDropped(t *testing.T) {
	for seed, spread := range []int{3, 9, 40, 300, 5000} {
		x := mixer(seed)
		var tree avl.Tree[string]
		var want model
		for step := range 6000 {
			key := x.below(spread) - spread/2
			if x.below(100) == 0 {
				key = odd[x.below(len(odd))]
			}
			// Growing and shrinking take turns.
			if x.below(10) < 4+3*(step/1500%2) {
				same(t, "Drop", got(tree.Drop(key)), got(want.drop(key)))
			} else {
				v := strconv.Itoa(step)
				same(t, "Put", got(tree.Put(key, v)), got(want.put(key, v)))
			}
			flat(t, &tree)
			if step%40 == 0 {
				looked(t, &tree, want, &x)
			}
		}
		looked(t, &tree, want, &x)
	}
}

// Clones and those who go through them live on while what they came from is changed.
func TestP7_7ManyClones(t *testing.T) {
	x := mixer(77)
	trees := []*avl.Tree[string]{{}}
	wants := []model{nil}
	for step := range 3000 {
		i := x.below(len(trees))
		key := x.below(60)
		switch x.below(5) {
		case 0:
			j := x.below(12)
			if j >= len(trees) {
				trees, wants = append(trees, nil), append(wants, nil)
				j = len(trees) - 1
			}
			trees[j], wants[j] = trees[i].Clone(), slices.Clone(wants[i])
		case 1, 2:
			same(t, "Drop", got(trees[i].Drop(key)), got(wants[i].drop(key)))
		default:
			v := strconv.Itoa(step)
			same(t, "Put", got(trees[i].Put(key, v)), got(wants[i].put(key, v)))
		}
	}
	for i, tree := range trees {
		looked(t, tree, wants[i], &x)
	}
}

// The same keys and values, however they came, tell the same.
func TestP7_7OrderIsNotSeen(t *testing.T) {
	x := mixer(78)
	first, want := of(1, 2, 3, 4, 5, 6)
	orders([]int{1, 2, 3, 4, 5, 6}, func(l []int) {
		tree, _ := of(l...)
		tree.Put(9, "gone")
		tree.Drop(9)
		looked(t, tree, want, &x)
	})
	looked(t, first, want, &x)
}

func TestP7_8Neighbours(t *testing.T) {
	x := mixer(79)
	for n := range 60 {
		var tree avl.Tree[int]
		for range n {
			tree.Put(x.below(4*n)-2*n, 0)
		}
		seen := 0
		for key, ok := tree.Min(); ok; key, ok = tree.Above(key) {
			same(t, "At(Rank)", got(tree.At(tree.Rank(key))), got(key, true))
			same(t, "Rank", tree.Rank(key), seen)
			if below, ok := tree.Below(key); ok {
				same(t, "Above(Below)", got(tree.Above(below)), got(key, true))
			} else {
				same(t, "keys without one below", seen, 0)
			}
			seen++
		}
		same(t, "keys by Above", seen, tree.Len())
		for key, ok := tree.Max(); ok; key, ok = tree.Below(key) {
			seen--
		}
		same(t, "keys by Below", seen, 0)
	}
}
