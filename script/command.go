package script

import (
	"deedbox/api"
	"deedbox/row"
)

// command of a line: how many words it takes behind its name, and what it does with them.
type command struct {
	words int
	do    func(p *player, words []string) (string, error)
}

// commands take the player when they are done, and not its lake ahead of that: `again` puts another one into its place.
func commands() map[string]command {
	return map[string]command{
		"append":  {words: 2, do: appendRows},
		"delete":  {words: 2, do: deleteKeys},
		"pack":    ofNumbers(1, func(p *player, n []int) (string, error) { return number(p.Pack(n[0])) }),
		"expire":  ofNumbers(2, func(p *player, n []int) (string, error) { return number(p.Expire(n[0], n[1])) }),
		"clean":   ofNumbers(1, func(p *player, n []int) (string, error) { return number(p.Clean(n[0])) }),
		"rows":    ofNumbers(2, func(p *player, n []int) (string, error) { return rows(p.Rows(n[0], n[1])) }),
		"at":      ofNumbers(3, func(p *player, n []int) (string, error) { return rows(p.At(n[0], n[1], n[2])) }),
		"then":    ofNumbers(1, func(p *player, n []int) (string, error) { return number(p.Then(n[0])) }),
		"days":    ofNumbers(1, func(p *player, n []int) (string, error) { return number(p.Store().Next(n[0])) }),
		"snaps":   ofNumbers(0, func(p *player, _ []int) (string, error) { return ids(p.Snaps()), nil }),
		"files":   ofNumbers(0, func(p *player, _ []int) (string, error) { return paths(p.Now().Files), nil }),
		"objects": ofNumbers(0, func(p *player, _ []int) (string, error) { return number(len(p.Store().Names()), nil) }),
		"cut":     ofNumbers(1, func(p *player, n []int) (string, error) { return done(p.Store().Cut(n[0])) }),
		"again":   ofNumbers(0, func(p *player, _ []int) (string, error) { return done(p.again()) }),
		"on":      ofNumbers(0, powerOn),
	}
}

// ofNumbers is a command that takes so many of them.
func ofNumbers(many int, do func(p *player, n []int) (string, error)) command {
	return command{words: many, do: func(p *player, words []string) (string, error) {
		n, ok := row.Numbers(words)
		if !ok {
			return "", api.ErrText
		}
		return do(p, n)
	}}
}

func appendRows(p *player, words []string) (string, error) {
	index, isIndex := row.Number(words[0])
	l, areRows := readRows(words[1])
	if !isIndex || !areRows {
		return "", api.ErrText
	}
	return number(p.Append(index, l))
}

func deleteKeys(p *player, words []string) (string, error) {
	index, isIndex := row.Number(words[0])
	keys, areKeys := readKeys(words[1])
	if !isIndex || !areKeys {
		return "", api.ErrText
	}
	return number(p.Delete(index, keys))
}

func powerOn(p *player, _ []int) (string, error) {
	p.Store().On()
	return done(nil)
}
