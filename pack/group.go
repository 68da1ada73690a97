package pack

import (
	"slices"

	"deedbox/api"
)

// group of files that may become one.
type group struct {
	part  string
	rows  int
	paths []string
}

func (g *group) fits(f api.File) bool { return g.part == f.Part && g.rows+f.N <= api.MaxRows }

func (g *group) take(f api.File) {
	g.rows += f.N
	g.paths = append(g.paths, f.Path)
}

// put a file into the first group that it fits, or into a new one behind them.
func put(groups []*group, f api.File) []*group {
	at := slices.IndexFunc(groups, func(g *group) bool { return g.fits(f) })
	if at < 0 {
		at = len(groups)
		groups = append(groups, &group{part: f.Part})
	}
	groups[at].take(f)
	return groups
}

// several: the paths of groups, but of those of one file, which would become what it is.
func several(groups []*group) [][]string {
	var l [][]string
	for _, g := range groups {
		if len(g.paths) > 1 {
			l = append(l, g.paths)
		}
	}
	return l
}
