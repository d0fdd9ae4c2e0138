package part

import (
	"zoetrope/api"
)

// Blocks are the leaves of a square's tree in an area, in order, and how many of the choices were used.
func Blocks(r api.Rect, area api.Rect, choices []int) ([]api.Rect, int, api.Errno) {
	if !isSquare(r) || !isArea(area) {
		return nil, 0, api.ErrArg
	}
	used := 0
	pick := func(size int) int {
		types, _ := Types(size)
		// Of one partition there is no choice, so none is used.
		if types == 1 || used == len(choices) {
			return api.PartNone
		}
		used++
		return (choices[used-1]%types + types) % types
	}
	var leaves []api.Rect
	var grow func(region api.Rect)
	grow = func(region api.Rect) {
		if !meets(region, area) {
			return
		}
		// Places and sides are whole units, so a region that reaches beyond the area is greater than one and can be split.
		kind := api.PartSplit
		if within(region, area) {
			kind = pick(region.W)
		}
		parts, _ := Cuts(region, kind)
		if kind != api.PartSplit {
			leaves = append(leaves, parts...)
			return
		}
		for _, quarter := range parts {
			grow(quarter)
		}
	}
	grow(r)
	return leaves, used, api.OK
}

// isSquare tells whether a region is one that has a tree of its own.
func isSquare(r api.Rect) bool {
	return isRegion(r) && r.W == api.SuperSize && r.X <= lastOfArea && r.Y <= lastOfArea
}

func isArea(r api.Rect) bool {
	return isUnits(r.X, 0, lastOfArea) && isUnits(r.Y, 0, lastOfArea) && isUnits(r.W, unit, mostOfArea) && isUnits(r.H, unit, mostOfArea)
}

// meets tells whether a place is in both.
func meets(a, b api.Rect) bool {
	return a.X < b.X+b.W && b.X < a.X+a.W && a.Y < b.Y+b.H && b.Y < a.Y+a.H
}

// within tells whether every place of a is in b.
func within(a, b api.Rect) bool {
	return a.X >= b.X && a.Y >= b.Y && a.X+a.W <= b.X+b.W && a.Y+a.H <= b.Y+b.H
}
