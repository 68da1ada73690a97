package scan

import (
	"maps"
	"slices"

	"deedbox/api"
	"deedbox/data"
	"deedbox/file"
	"deedbox/gone"
	"deedbox/store"
)

// content is what was read of files. A row is held against all keys that are gone only when all is read: files of keys stand behind those of rows.
type content struct {
	rows map[int][]api.Row // by the Seq of their files
	last map[int]int       // by keys that are gone: the greatest Seq of the files that have them
}

func newContent() content {
	return content{rows: map[int][]api.Row{}, last: map[int]int{}}
}

// read a file, if it is what is known of it.
func (c content) read(st *store.Store, f api.File) error {
	text, err := st.Get(f.Path)
	if err != nil {
		return err
	}
	own, err := file.Of(f.Path, f.Part, text, f.Seq)
	if err != nil {
		return err
	}
	if own != f {
		return api.ErrShape
	}
	return c.take(f, text)
}

func (c content) take(f api.File, text string) error {
	if file.IsGone(f) {
		return c.takeKeys(f.Seq, text)
	}
	return c.takeRows(f.Seq, text)
}

func (c content) takeKeys(seq int, text string) error {
	keys, err := gone.Read(text)
	for _, key := range keys {
		c.last[key] = max(c.last[key], seq)
	}
	return err
}

func (c content) takeRows(seq int, text string) error {
	rows, err := data.Read(text)
	c.rows[seq] = append(c.rows[seq], rows...)
	return err
}

// alive: the rows that are not gone, in no order.
func (c content) alive() []api.Row {
	var alive []api.Row
	for seq, rows := range maps.All(c.rows) {
		dead := func(r api.Row) bool { return c.last[r.Key] > seq }
		alive = append(alive, slices.DeleteFunc(slices.Clone(rows), dead)...)
	}
	return alive
}
