package lake

import (
	"strconv"
	"strings"

	"deedbox/api"
	"deedbox/file"
	"deedbox/meta"
	"deedbox/row"
	"deedbox/snap"
	"deedbox/store"
)

// Folders of objects: what stands ahead of their numbers.
const (
	dataFolder = "data/"
	goneFolder = "gone/"
	snapFolder = "snap/"
	metaFolder = "meta/"

	slash = "/"
)

// newNumber is above those of all objects, pieces that power left too: what is there is never written again.
func newNumber(st *store.Store) int {
	greatest := 0
	for _, name := range st.Names() {
		greatest = max(greatest, numberOf(name))
	}
	return greatest + 1
}

// numberOf a name; none: 0.
func numberOf(name string) int {
	at := strings.LastIndex(name, slash)
	if at < 0 {
		return 0
	}
	n, _ := row.Number(name[at+len(slash):])
	return n
}

func nameOf(folder string, number int) string { return folder + strconv.Itoa(number) }

func isMeta(name string) bool {
	word, ok := strings.CutPrefix(name, metaFolder)
	_, isNumber := row.Number(word)
	return ok && isNumber
}

// bare takes the place off an error: a line of an object, or a file of a list, is none of what a lake is asked for.
func bare(err error) error { return file.Bare(err) }

// start a table: a snap without files.
func (k *Lake) start() error {
	s := snap.First()
	s.ID = newNumber(k.st)
	return k.turn(s, []int{s.ID})
}

// read what the head means.
func (k *Lake) read() error {
	if !isMeta(k.head) {
		return api.ErrText
	}
	text, err := k.st.Get(k.head)
	if err != nil {
		return api.ErrText
	}
	ids, err := meta.Read(text)
	if err != nil {
		return bare(err)
	}
	now, err := readSnap(k.st, meta.Now(ids))
	if err != nil {
		return err
	}
	k.ids, k.now = ids, now
	return nil
}

func readSnap(st *store.Store, id int) (api.Snap, error) {
	text, err := st.Get(nameOf(snapFolder, id))
	if err != nil {
		return api.Snap{}, err
	}
	s, err := snap.Read(text)
	if err != nil {
		return api.Snap{}, bare(err)
	}
	return s, nil
}

// snaps that there are, each of them read: only the one of now is known.
func (k *Lake) snaps() ([]api.Snap, error) {
	var l []api.Snap
	for _, id := range k.ids {
		s, err := readSnap(k.st, id)
		if err != nil {
			return nil, err
		}
		l = append(l, s)
	}
	return l, nil
}

// turn to a new snap, the last of these.
func (k *Lake) turn(now api.Snap, ids []int) error {
	text, err := snap.Text(now)
	if err != nil {
		return bare(err)
	}
	if err := k.st.Put(nameOf(snapFolder, now.ID), text); err != nil {
		return err
	}
	return k.swap(now, ids)
}

// swap the head to one that has these. The lake itself follows only when that is done: until then the table is as it was.
func (k *Lake) swap(now api.Snap, ids []int) error {
	text, err := meta.Text(ids)
	if err != nil {
		return bare(err)
	}
	head := nameOf(metaFolder, newNumber(k.st))
	if err := k.st.Put(head, text); err != nil {
		return err
	}
	if err := k.st.Swap(k.head, head); err != nil {
		return err
	}
	k.head, k.ids, k.now = head, ids, now
	return nil
}
