package syms

import (
	"slices"

	"zoetrope/api"
	"zoetrope/cdf"
)

// Default is the set that all begins with.
func Default() api.Set {
	return filled(func(kind, context int) api.Table { return first(kind) })
}

// first is the table that a kind begins with, in each of its contexts. Every kind's number of values is one that a table can have, so there is no error to tell.
func first(kind int) api.Table {
	begin := cdf.Flat
	if shapes[kind].steep {
		begin = cdf.Steep
	}
	t, _ := begin(shapes[kind].values)
	return t
}

// filled is a set of the shape that sets have, table by table.
func filled(table func(kind, context int) api.Table) api.Set {
	s := api.Set{T: make([][]api.Table, api.Syms)}
	for kind := range api.Syms {
		s.T[kind] = make([]api.Table, shapes[kind].contexts)
		for context := range shapes[kind].contexts {
			s.T[kind][context] = table(kind, context)
		}
	}
	return s
}

// Check tells whether a set may be.
func Check(s api.Set) api.Errno {
	if len(s.T) != api.Syms {
		return api.ErrArg
	}
	for kind, l := range s.T {
		if len(l) != shapes[kind].contexts {
			return api.ErrArg
		}
		for _, t := range l {
			if len(t.C) != shapes[kind].values || cdf.Check(t) != api.OK {
				return api.ErrArg
			}
		}
	}
	return api.OK
}

// Copy is the same set in memory of its own, whatever its shape.
func Copy(s api.Set) api.Set {
	c := api.Set{T: make([][]api.Table, len(s.T))}
	for kind, l := range s.T {
		c.T[kind] = make([]api.Table, len(l))
		for context, t := range l {
			c.T[kind][context] = api.Table{C: slices.Clone(t.C), Count: t.Count}
		}
	}
	return c
}

// Average is the set between several, table by table.
func Average(l ...api.Set) (api.Set, api.Errno) {
	if len(l) == 0 {
		return api.Set{}, api.ErrArg
	}
	for _, s := range l {
		if e := Check(s); e != api.OK {
			return api.Set{}, e
		}
	}
	return filled(func(kind, context int) api.Table { return middle(kind, context, l...) }), api.OK
}

// middle is the table between those that sets have in one place. The sets may be, so their tables can be averaged.
func middle(kind, context int, l ...api.Set) api.Table {
	tables := make([]api.Table, len(l))
	for i, s := range l {
		tables[i] = s.T[kind][context]
	}
	t, _ := cdf.Average(tables...)
	return t
}
