// Package images: the texts by which a store tells images: configs and manifests.
package images

import "strings"

// How the texts begin, what stands in them, and how they end.
const (
	envField      = `{"env":`
	configField   = `{"config":`
	layersField   = `,"layers":`
	workField     = `,"work":`
	ending        = `}`
	quote         = `"`
	backslash     = `\`
	listBeginning = `[`
	listEnding    = `]`
	comma         = `,`
)

// Config of an image: its variables (NAME=value, by rising names), the digests of its layers, its directory with a slash ahead.
type Config struct {
	Env    []string
	Layers []string
	Work   string
}

// Manifest of an image: the digest of its config, and those of its layers.
type Manifest struct {
	Config string
	Layers []string
}

// Text tells a config as it is put into a store (P17).
func (c Config) Text() string {
	return envField + listed(c.Env) + layersField + listed(c.Layers) + workField + quoted(c.Work) + ending
}

// Text tells a manifest as it is put into a store (P17).
func (m Manifest) Text() string {
	return configField + quoted(m.Config) + layersField + listed(m.Layers) + ending
}

func listed(l []string) string {
	var all []string
	for _, s := range l {
		all = append(all, quoted(s))
	}
	return listBeginning + strings.Join(all, comma) + listEnding
}

// quoted tells a text between quotes, with a backslash ahead of what would end it, or not stand for itself.
func quoted(s string) string {
	var b strings.Builder
	for i := range len(s) {
		if isEscaped(s[i:]) {
			b.WriteString(backslash)
		}
		b.WriteByte(s[i])
	}
	return quote + b.String() + quote
}

// isEscaped tells whether what a text begins with has a backslash ahead of it.
func isEscaped(s string) bool {
	return strings.HasPrefix(s, quote) || strings.HasPrefix(s, backslash)
}
