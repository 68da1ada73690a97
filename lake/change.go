package lake

import (
	"iter"
	"slices"

	"deedbox/api"
	"deedbox/data"
	"deedbox/file"
	"deedbox/gone"
	"deedbox/list"
	"deedbox/meta"
	"deedbox/pack"
	"deedbox/part"
	"deedbox/row"
	"deedbox/txn"
)

const (
	noPart = "-" // of a file of keys

	anySeq = 1 // of a file whose own one is told when the change is done
)

// draft of a file that has no path yet.
type draft struct {
	folder, part, text string
}

// change of a table: files to be written, paths of files to be removed.
type change struct {
	drafts  []draft
	removed []string
}

// Append rows.
func (k *Lake) Append(index int, l []api.Row) (int, error) {
	if k.shut() {
		return 0, api.ErrShape
	}
	if !isIndex(index) {
		return 0, api.ErrBound
	}
	groups, err := part.Split(k.spec, l)
	if err != nil {
		return 0, err
	}
	if k.isDone(index) {
		return 0, nil
	}
	var c change
	for name, rows := range chunks(groups) {
		if err := c.addRows(name, rows); err != nil {
			return 0, err
		}
	}
	if err := k.do(c, index); err != nil {
		return 0, err
	}
	return len(l), nil
}

// Delete keys.
func (k *Lake) Delete(index int, keys []int) (int, error) {
	if k.shut() {
		return 0, api.ErrShape
	}
	if !isIndex(index) {
		return 0, api.ErrBound
	}
	text, err := gone.Make(keys)
	if err != nil {
		return 0, err
	}
	if k.isDone(index) {
		return 0, nil
	}
	once, err := gone.Read(text)
	if err != nil {
		return 0, err
	}
	var c change
	if len(once) > 0 {
		c.drafts = append(c.drafts, draft{folder: goneFolder, part: noPart, text: text})
	}
	if err := k.do(c, index); err != nil {
		return 0, err
	}
	return len(once), nil
}

// Pack files.
func (k *Lake) Pack(least int) (int, error) {
	if k.shut() {
		return 0, api.ErrShape
	}
	groups, err := pack.Plan(k.now.Files, least)
	if err != nil {
		return 0, err
	}
	idle, err := pack.Idle(k.now.Files)
	if err != nil {
		return 0, err
	}
	c := change{removed: idle}
	for _, paths := range groups {
		if err := k.addPacked(&c, paths); err != nil {
			return 0, err
		}
	}
	if len(c.removed) == 0 {
		return 0, nil
	}
	many := len(k.now.Files)
	if err := k.do(c, k.now.Index); err != nil {
		return 0, err
	}
	return many - len(k.now.Files), nil
}

func isIndex(index int) bool { return 1 <= index && index <= api.MaxNum }

// isDone: was something of this index, or of a later one, done already? Who is unsure whether it was may tell it again.
func (k *Lake) isDone(index int) bool { return index <= k.now.Index }

// chunks of groups, each with its group's name: as many rows as a file has room for.
func chunks(groups []part.Group) iter.Seq2[string, []api.Row] {
	return func(yield func(string, []api.Row) bool) {
		for _, g := range groups {
			for rows := range slices.Chunk(row.Sort(g.Rows), api.MaxRows) {
				if !yield(g.Name, rows) {
					return
				}
			}
		}
	}
}

func (c *change) addRows(name string, rows []api.Row) error {
	text, err := data.Make(rows)
	if err != nil {
		return err
	}
	c.drafts = append(c.drafts, draft{folder: dataFolder, part: name, text: text})
	return nil
}

// addPacked: one file instead of these, or none if all of their rows are gone.
func (k *Lake) addPacked(c *change, paths []string) error {
	rows, err := pack.Rewrite(k.st, k.now, paths)
	if err != nil {
		return err
	}
	c.removed = append(c.removed, paths...)
	if len(rows) == 0 {
		return nil
	}
	first := k.now.Files[list.Find(k.now.Files, paths[0])]
	return c.addRows(first.Part, rows)
}

// do a change. Nobody sees anything of it until the head is swapped, at the very end: what was put by then is there, and not needed.
func (k *Lake) do(c change, index int) error {
	paths, err := k.put(c.drafts)
	if err != nil {
		return err
	}
	t, err := k.begin(c, paths)
	if err != nil {
		return bare(err)
	}
	now, err := t.Commit(k.now, newNumber(k.st), k.st.Day(), index)
	if err != nil {
		return bare(err)
	}
	ids, err := meta.Push(k.ids, now.ID)
	if err != nil {
		return bare(err)
	}
	return k.turn(now, ids)
}

// put files, all of them ahead of asking what is wrong with the change: their paths.
func (k *Lake) put(drafts []draft) ([]string, error) {
	var paths []string
	for _, d := range drafts {
		path := nameOf(d.folder, newNumber(k.st))
		if err := k.st.Put(path, d.text); err != nil {
			return nil, err
		}
		paths = append(paths, path)
	}
	return paths, nil
}

// begin a change whose files are put.
func (k *Lake) begin(c change, paths []string) (*txn.Txn, error) {
	t, err := txn.Begin(k.now)
	if err != nil {
		return nil, err
	}
	for _, path := range c.removed {
		if err := t.Remove(path); err != nil {
			return nil, err
		}
	}
	for i, d := range c.drafts {
		f, err := file.Of(paths[i], d.part, d.text, anySeq)
		if err != nil {
			return nil, err
		}
		if err := t.Add(f); err != nil {
			return nil, err
		}
	}
	return t, nil
}
