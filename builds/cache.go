package builds

import (
	"strings"

	"layers/buildfile"
	"layers/digest"
)

const (
	newline = "\n"
	// keyWord begins the text of which a key is the digest.
	keyWord = "step"
	// noSource stands in it for the sum of what nothing is taken from.
	noSource = "-"
)

// keyOf tells a step's key: a digest of all on which it hangs what the step comes to.
func keyOf(t buildfile.Turn) string {
	source := noSource
	if t.Task.Source != nil {
		source = t.Task.Source.Sum()
	}
	return digest.Of(lines(keyWord, t.State.Tree().Sum(), t.State.Work(), t.Form(), source))
}

// lines tells texts, each with a newline.
func lines(l ...string) string {
	return strings.Join(l, newline) + newline
}

// entry of the cache: the digest of a step's layer, and the sum of the tree behind the step.
type entry struct {
	layer, sum string
}

func (e entry) text() string {
	return lines(e.layer, e.sum)
}

// readEntry tells what a file of the cache says; false, if it says nothing.
func readEntry(text string) (entry, bool) {
	layer, behind, _ := strings.Cut(text, newline)
	sum, rest, ok := strings.Cut(behind, newline)
	return entry{layer: layer, sum: sum}, ok && rest == "" && digest.Is(layer) && digest.Is(sum)
}

// find looks for a step in the cache. If all that is said of it there holds, the stage has come behind it, and the digest of its layer is told.
func (b *builder) find(t buildfile.Turn, key string) (string, bool) {
	text, _ := b.files.Cached(key)
	known, ok := readEntry(text)
	if !ok {
		return "", false
	}
	root := t.State.Tree().Clone()
	if err := Lay(b.files, root, known.layer); err != nil || root.Sum() != known.sum {
		return "", false
	}
	path, err := t.Behind()
	if err != nil {
		return "", false
	}
	t.State.Jump(root, path)
	return known.layer, true
}
