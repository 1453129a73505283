package layers_test

import (
	"fmt"
	"maps"
	"math/rand"
	"slices"
	"strings"
	"testing"

	"layers/api"
	"layers/layers"
)

// modelStore: a second reading of P13 and P14, on a list of files that rises by names. Each call tells its answer and its acts as a text.
type modelStore struct {
	files []api.Blob
	quota int
	acts  []api.Act
}

func (m *modelStore) find(name string) int {
	return slices.IndexFunc(m.files, func(f api.Blob) bool { return f.Name == name })
}

func (m *modelStore) drop(name string) string {
	i := m.find(name)
	if i < 0 {
		return told("", api.ErrNone)
	}
	m.acts = append(m.acts, removed(m.files[i]))
	m.files = slices.Delete(m.files, i, i+1)
	return told("", nil)
}

// blob: the bytes that have a digest.
func (m *modelStore) blob(sum string) (string, bool) {
	i := m.find("b/" + sum)
	if i < 0 || digest(m.files[i].Data) != sum {
		return "", false
	}
	return m.files[i].Data, true
}

func (m *modelStore) get(sum string) string {
	if data, ok := m.blob(sum); ok {
		return told(data, nil)
	}
	return told("", api.ErrNone)
}

// keep: whether there is room for a file, which is there then.
func (m *modelStore) keep(f api.Blob) bool {
	size := len(f.Data)
	var others []api.Blob
	for _, g := range m.files {
		if g.Name != f.Name {
			size += len(g.Data)
			others = append(others, g)
		}
	}
	if size > m.quota {
		return false
	}
	m.files = rising(append(others, f)...)
	m.acts = append(m.acts, kept(f)...)
	return true
}

// has: whether a blob is there, or there is room for it.
func (m *modelStore) has(data string) bool {
	_, ok := m.blob(digest(data))
	return ok || m.keep(blob(data))
}

func (m *modelStore) put(data string) string {
	if !m.has(data) {
		return told("", api.ErrFull)
	}
	return told(digest(data), nil)
}

// told: an answer as a text.
func told(s string, err error) string {
	return fmt.Sprintf("%q %v", s, err)
}

// someBytes: few texts, so that they are met again.
func someBytes(r *rand.Rand) string {
	return strings.Repeat(oneOf(r, "a", "b", "\x00"), r.Intn(4))
}

// someFiles: files of all kinds, some under names that their bytes do not have.
func someFiles(r *rand.Rand) []api.Blob {
	var l []api.Blob
	for range r.Intn(6) {
		f := called(oneOf(r, "b", "b", "c", "t"), someBytes(r), someBytes(r))
		if r.Intn(2) == 0 {
			f.Name = f.Name[:2] + digest(f.Data)
		}
		if !slices.ContainsFunc(l, func(g api.Blob) bool { return g.Name == f.Name }) {
			l = append(l, f)
		}
	}
	return l
}

// modelOf: the store that New makes of files that a store can have.
func modelOf(files []api.Blob, quota int) *modelStore {
	m := &modelStore{quota: quota}
	for _, f := range rising(files...) {
		if strings.HasPrefix(f.Name, "t") {
			m.acts = append(m.acts, removed(f))
		} else {
			m.files = append(m.files, f)
		}
	}
	return m
}

// Stores and their model answer alike, call by call, and do the same.
func TestStoresAsModel(t *testing.T) {
	r := rand.New(rand.NewSource(13))
	full := 0
	for range 4000 {
		files, quota := someFiles(r), r.Intn(20)
		m := modelOf(files, quota)
		s, err := layers.New(files, quota)
		if err != nil {
			t.Fatal(err)
		}
		for range r.Intn(30) {
			got, want := "", ""
			data := someBytes(r)
			switch r.Intn(4) {
			case 0, 1:
				want = m.put(data)
				got = told(s.Put(data))
			case 2:
				want = m.get(digest(data))
				got = told(s.Get(digest(data)))
			case 3:
				name := called(oneOf(r, "b", "b", "b", "c", "t"), data, "").Name
				want = m.drop(name)
				got = told("", s.Drop(name))
			}
			if got != want || !slices.Equal(s.Files(), m.files) {
				t.Fatalf("P13, P14: %s; want %s; files %q; want %q", got, want, s.Files(), m.files)
			}
			if want == told("", api.ErrFull) {
				full++
			}
			if r.Intn(3) == 0 {
				checkActs(t, s, m.acts...)
				m.acts = nil
			}
		}
		checkActs(t, s, m.acts...)
	}
	if full < 1000 {
		t.Errorf("only %d times there was no room", full)
	}
}

// diskFile: bytes that some names lead to, and whether they are safe.
type diskFile struct {
	data string
	safe bool
}

// disk: what names lead to now, what they led to when all were safe last, and what each act since then did to names (nil: it led to nothing from then on).
type disk struct {
	now, safe map[string]*diskFile
	since     []map[string]*diskFile
}

func newDisk(files []api.Blob) *disk {
	d := &disk{now: map[string]*diskFile{}}
	for _, f := range files {
		d.now[f.Name] = &diskFile{f.Data, true}
	}
	d.safe = maps.Clone(d.now)
	return d
}

// lead changes what names lead to, all at once.
func lead(names, change map[string]*diskFile) {
	for name, f := range change {
		names[name] = f
		if f == nil {
			delete(names, name)
		}
	}
}

func (d *disk) change(change map[string]*diskFile) {
	lead(d.now, change)
	d.since = append(d.since, change)
}

func (d *disk) do(t *testing.T, a api.Act) {
	t.Helper()
	f := d.now[a.Name]
	if f == nil && a.What != api.Write && a.What != api.SyncDir {
		t.Fatalf("P13: act %d: there is no file %s", a.What, a.Name)
	}
	switch a.What {
	case api.Write:
		if f == nil {
			f = &diskFile{}
			d.change(map[string]*diskFile{a.Name: f})
		}
		f.data, f.safe = a.Data, false
	case api.Sync:
		f.safe = true
	case api.Rename:
		d.change(map[string]*diskFile{a.Name: nil, a.To: f})
	case api.SyncDir:
		d.safe, d.since = maps.Clone(d.now), nil
	case api.Remove:
		d.change(map[string]*diskFile{a.Name: nil})
	default:
		t.Fatalf("P13: %d is no act", a.What)
	}
}

// files: what there is, as a store tells it.
func (d *disk) files() []api.Blob {
	return diskFiles(d.now, 2)
}

// diskFiles: so many halves of the bytes that are not safe, and all others.
func diskFiles(names map[string]*diskFile, halves int) []api.Blob {
	var l []api.Blob
	for name, f := range names {
		g := api.Blob{Name: name, Data: f.data}
		if !f.safe {
			g.Data = f.data[:len(f.data)*halves/2]
		}
		l = append(l, g)
	}
	return rising(l...)
}

// left: all that may be left, if the machine stops now: of what was done to names and is not safe any part may be lost, of bytes that are not safe some or all.
func (d *disk) left() [][]api.Blob {
	var all [][]api.Blob
	for part := range 1 << len(d.since) {
		names := maps.Clone(d.safe)
		for i, change := range d.since {
			if part>>i&1 == 1 {
				lead(names, change)
			}
		}
		for halves := range 3 {
			all = append(all, diskFiles(names, halves))
		}
	}
	return all
}

// ever: the bytes that each name had at some time.
type ever map[string][]string

func (e ever) add(l []api.Blob) {
	for _, f := range l {
		e[f.Name] = append(e[f.Name], f.Data)
	}
}

// checkLeft: a machine that stopped during a call has, under names that are safe, whole bytes, all that was there before the call, but for what it drops, and a store of it has all that too.
func checkLeft(t *testing.T, d *disk, before []api.Blob, dropped string, e ever) {
	t.Helper()
	for _, l := range d.left() {
		var whole []api.Blob
		for _, f := range l {
			if strings.HasPrefix(f.Name, "t/") {
				continue
			}
			whole = append(whole, f)
			if !slices.Contains(e[f.Name], f.Data) {
				t.Fatalf("P15: %q is left under %s; there were %q", f.Data, f.Name, e[f.Name])
			}
		}
		for _, f := range before {
			if f.Name != dropped && !slices.ContainsFunc(whole, func(g api.Blob) bool { return g.Name == f.Name }) {
				t.Fatalf("P15: %s is lost", f.Name)
			}
		}
		checkFiles(t, opened(t, api.MaxQuota, l...), whole...)
	}
}

// Whenever a machine stops, what was put is there, and nothing is there in part.
func TestP15MachineStops(t *testing.T) {
	r := rand.New(rand.NewSource(15))
	stops := 0
	for range 500 {
		files := someFiles(r)
		d := newDisk(files)
		s, err := layers.New(files, 1000)
		if err != nil {
			t.Fatal(err)
		}
		e := ever{}
		e.add(files)
		before, dropped := s.Files(), ""
		for range 2 + r.Intn(6) {
			// What is put is known as whole from the beginning of its call on.
			e.add(s.Files())
			for _, a := range s.Acts() {
				checkLeft(t, d, before, dropped, e)
				d.do(t, a)
				stops++
			}
			before, dropped = s.Files(), ""
			checkLeft(t, d, before, dropped, e)
			if !slices.Equal(d.files(), before) {
				t.Fatalf("P13: by its acts a store has %q; want %q", d.files(), before)
			}
			if r.Intn(3) == 0 {
				dropped = called(oneOf(r, "b", "c"), someBytes(r), "").Name
				s.Drop(dropped)
			} else if _, err := s.Put(someBytes(r)); err != nil {
				t.Fatal(err)
			}
		}
	}
	if stops < 3000 {
		t.Errorf("only %d acts", stops)
	}
}
