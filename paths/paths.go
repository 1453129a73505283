// Package paths: what a path is, how paths are ordered, and which path a text names.
package paths

import (
	"slices"
	"strings"

	"layers/api"
)

const (
	// Root is the path without elements.
	Root = ""
	// Slash stands between each two elements.
	Slash = "/"
	// Mark begins the names by which archives tell what is gone: no element may look like one.
	Mark = ".wh."
)

// IsElement tells whether a text may stand between the slashes of a path.
func IsElement(s string) bool {
	if s == "" || len(s) > api.MaxName || s == "." || s == ".." || strings.HasPrefix(s, Mark) {
		return false
	}
	for i := range len(s) {
		if !isElementByte(s[i]) {
			return false
		}
	}
	return true
}

func isElementByte(c byte) bool {
	switch {
	case 'a' <= c && c <= 'z', 'A' <= c && c <= 'Z', '0' <= c && c <= '9':
		return true
	}
	return c == '.' || c == '_' || c == '-'
}

// Is tells whether a text is a path. The root is one.
func Is(s string) bool {
	// The length goes first, so that a text of any size is not parted in vain.
	if len(s) > api.MaxPath {
		return false
	}
	l := Elements(s)
	for _, e := range l {
		if !IsElement(e) {
			return false
		}
	}
	return len(l) <= api.MaxDeep
}

// Elements parts a path. The root has none, where strings.Split would tell an empty one.
func Elements(path string) []string {
	if path == Root {
		return nil
	}
	return strings.Split(path, Slash)
}

// Last parts a path that is not the root: the directory that it is in, and its last element.
func Last(path string) (string, string) {
	i := strings.LastIndex(path, Slash)
	if i < 0 {
		return Root, path
	}
	return path[:i], path[i+1:]
}

// Join puts together what Last parts: a directory and a name in it.
func Join(dir string, name string) string {
	if dir == Root {
		return name
	}
	return dir + Slash + name
}

// Compare tells how two paths stand in tree order. Texts as they are would not do: `a-b` is less than `a/b`, but a comes first, and all below it with it.
func Compare(a string, b string) int {
	return slices.Compare(Elements(a), Elements(b))
}

// IsBelow tells whether a path is below another one, which is not the root.
func IsBelow(path string, top string) bool {
	return strings.HasPrefix(path, top+Slash)
}

// Behind tells what of a path stands behind another one, below which it is: Join of that one and this is the path. The other one may be the root.
func Behind(path string, top string) string {
	return strings.TrimPrefix(strings.TrimPrefix(path, top), Slash)
}

// Resolve tells the path that a text names in the directory work (P3).
func Resolve(work string, path string) (string, error) {
	if !Is(work) {
		return "", api.ErrPath
	}
	var l []string
	if !strings.HasPrefix(path, Slash) {
		l = Elements(work)
	}
	for _, part := range strings.Split(path, Slash) {
		switch {
		case part == "" || part == ".":
		case part == ".." && len(l) > 0:
			l = l[:len(l)-1]
		case IsElement(part):
			l = append(l, part)
		default:
			return "", api.ErrPath
		}
	}
	// Only what comes out is bounded: on the way there may be more elements than a path has.
	out := strings.Join(l, Slash)
	if !Is(out) {
		return "", api.ErrPath
	}
	// Join of one element is that element itself, a piece of what was handed in.
	return strings.Clone(out), nil
}
