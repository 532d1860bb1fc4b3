// Package matching is what the quick engines of layers 10 and 11 share: how a command is done, however a book keeps its orders. The rules book has no part in it: they are held against each other.
package matching

import (
	"iter"
	"slices"

	"bourse/api"
)

// State is what a book keeps beside its orders.
type State struct {
	Config    api.Config
	High, Seq uint64
}

// Orders is how an engine keeps the orders of a book.
type Orders interface {
	// Find is an order and its side, and whether there is one of that ID; Len is how many there are.
	Find(id uint64) (api.Resting, int, bool)
	Len() int
	// All goes through the orders of a side in their priority, Levels through its levels, the best first; neither side has any.
	All(side int) iter.Seq[api.Resting]
	Levels(side int) iter.Seq[api.Level]
	// Enqueue lets an order rest, behind all others at its price.
	Enqueue(side int, r api.Resting)
	// Set gives the order of an ID that rests other quantities, where it stands.
	Set(r api.Resting)
	// Pop takes the first order of a side out, and Drop the one of an ID; there must be one.
	Pop(side int)
	Drop(id uint64)
}

// Fill lets the orders of a book rest where there are none, in their priority.
func Fill(orders Orders, x api.Book) {
	for _, r := range x.Buys {
		orders.Enqueue(api.Buy, r)
	}
	for _, r := range x.Sells {
		orders.Enqueue(api.Sell, r)
	}
}

// Book is all that a book keeps.
func Book(s State, orders Orders) api.Book {
	return api.Book{Config: s.Config, Buys: slices.Collect(orders.All(api.Buy)), Sells: slices.Collect(orders.All(api.Sell)), High: s.High, Seq: s.Seq}
}

// Best is the best level of a side, and whether there is one.
func Best(orders Orders, side int) (api.Level, bool) {
	for l := range orders.Levels(side) {
		return l, true
	}
	return api.Level{}, false
}

// Depth is the best levels of a side, at most so many.
func Depth(orders Orders, side, most int) []api.Level {
	var list []api.Level
	for l := range orders.Levels(side) {
		if len(list) >= most {
			break
		}
		list = append(list, l)
	}
	return list
}
