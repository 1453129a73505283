package archive

import (
	"strings"

	"layers/api"
	"layers/paths"
)

// opaque is the last element of the name of a Clear. It is that of no Gone: no element begins like a mark.
const opaque = paths.Mark + paths.Mark + ".opq"

// nameOf tells the name of a change.
func nameOf(c api.Change) string {
	switch c.Kind {
	case api.Dir:
		return c.Path + paths.Slash
	case api.Gone:
		dir, last := paths.Last(c.Path)
		return paths.Join(dir, paths.Mark+last)
	case api.Clear:
		return paths.Join(c.Path, opaque)
	}
	return c.Path
}

// dirPath tells the path of a Dir with this name.
func dirPath(name string) string {
	return strings.TrimSuffix(name, paths.Slash)
}

// unmarked tells the path and the kind of what has this name, and is a File or a mark.
func unmarked(name string) (string, int) {
	dir, last := paths.Last(name)
	if last == opaque {
		return dir, api.Clear
	}
	if gone, ok := strings.CutPrefix(last, paths.Mark); ok {
		return paths.Join(dir, gone), api.Gone
	}
	return name, api.File
}

// parted tells what of a name goes into the fields ahead and name. There is room for it: the slash that is looked for comes soon, since an element, even with a mark, is far shorter than the field name.
func parted(name string) (string, string) {
	from := len(name) - nameField.size - len(paths.Slash)
	if from < 0 {
		return "", name
	}
	ahead, behind, _ := strings.Cut(name[from:], paths.Slash)
	return name[:from] + ahead, behind
}

// joined tells the name that was parted.
func joined(ahead string, behind string) string {
	if ahead == "" {
		return behind
	}
	return ahead + paths.Slash + behind
}
