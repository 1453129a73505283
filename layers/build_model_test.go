package layers_test

import (
	"encoding/json"
	"fmt"
	"maps"
	"math/rand"
	"regexp"
	"slices"
	"strings"
	"testing"

	"layers/api"
	"layers/layers"
)

// A second reading of P16 to P18, on the models of build files and of stores. Texts are read by the library's JSON, written anew and held against what they were.

var (
	modelDigest   = regexp.MustCompile(`^[0-9a-f]{64}$`)
	modelEntry    = regexp.MustCompile(`^([0-9a-f]{64})\n([0-9a-f]{64})\n$`)
	modelSteps    = regexp.MustCompile(`(?m)^(COPY|ADD|RM|MKDIR|LINK|WORKDIR)`)
	modelVariable = regexp.MustCompile(`^([A-Z][A-Z0-9_]{0,9})=[ -~]{0,180}$`)
)

// quotedText: a text as configs and manifests have it.
func quotedText(s string) string {
	return `"` + strings.NewReplacer(`"`, `\"`, `\`, `\\`).Replace(s) + `"`
}

func quotedList(l []string) string {
	var all []string
	for _, s := range l {
		all = append(all, quotedText(s))
	}
	return "[" + strings.Join(all, ",") + "]"
}

func configText(env, layers []string, work string) string {
	return fmt.Sprintf(`{"env":%s,"layers":%s,"work":%s}`, quotedList(env), quotedList(layers), quotedText(work))
}

func manifestText(config string, layers []string) string {
	return fmt.Sprintf(`{"config":%s,"layers":%s}`, quotedText(config), quotedList(layers))
}

// imageTold: an image, or the error, as a text.
func imageTold(i api.Image, err error) string {
	return fmt.Sprintf("%q %s %v %v", i.Env, i.Work, i.Tree, err)
}

// builtTold: what was built, or the error, as a text.
func builtTold(b api.Built, err error) string {
	return fmt.Sprintf("%s %q %v %v", b.Manifest, b.Layers, b.Hits, err)
}

// sumOf: the sum of a tree.
func sumOf(l []api.Entry) string {
	sum, err := layers.Sum(l)
	if err != nil {
		panic(err)
	}
	return sum
}

// keyText: the text of which a step's key is the digest.
func keyText(tree []api.Entry, work, form, source string) string {
	return fmt.Sprintf("step\n%s\n%s\n%s\n%s\n", sumOf(tree), work, form, source)
}

// key: that of a line in a stage.
func (s *modelState) key(line modelLine, source []api.Entry) string {
	word, sum := line.words[0].text, "-"
	if word == "COPY" || word == "ADD" {
		sum = sumOf(source)
	}
	form := word
	for i, w := range line.words[1:] {
		if i > 0 || line.stage < 0 {
			form += " " + modelWord{text: w.value(s.env)}.form()
		}
	}
	return digest(keyText(s.tree, "/"+s.work, form, sum))
}

// stacked: a tree behind a layer; why not, if it is none.
func (m *modelStore) stacked(tree []api.Entry, layer string) ([]api.Entry, api.Errno) {
	data, ok := m.blob(layer)
	if !ok {
		return nil, api.ErrNone
	}
	l, wrong := modelUnpack(data)
	if wrong >= 0 {
		return nil, api.ErrImage
	}
	tree, err := modelPatch(tree, l)
	if err != nil {
		return nil, api.ErrImage
	}
	return tree, api.OK
}

// found: a step that the cache has; then the stage is behind it, and its layer is told.
func (m *modelStore) found(s *modelState, line modelLine, key string) (string, bool) {
	i := m.find("c/" + key)
	if i < 0 {
		return "", false
	}
	said := modelEntry.FindStringSubmatch(m.files[i].Data)
	if said == nil {
		return "", false
	}
	tree, number := m.stacked(s.tree, said[1])
	if number != api.OK || sumOf(tree) != said[2] {
		return "", false
	}
	work := s.work
	if line.words[0].text == "WORKDIR" {
		var err error
		if work, err = layers.Resolve(s.work, line.words[1].value(s.env)); err != nil {
			return "", false
		}
	}
	s.tree, s.work = tree, work
	return said[1], true
}

// done: a step that the cache has not.
func (m *modelStore) done(s *modelState, line modelLine, source []api.Entry, key string) (string, error) {
	before := s.tree
	if number := s.step(line, source); number != api.OK {
		return "", &api.At{Err: number, Place: line.words[0].place}
	}
	data := modelPack(modelDiff(before, s.tree))
	entry := api.Blob{Name: "c/" + key, Data: digest(data) + "\n" + sumOf(s.tree) + "\n"}
	if !m.has(data) || !m.keep(entry) {
		return "", api.ErrFull
	}
	return digest(data), nil
}

// modelBuilding: what stages have come to, by their numbers, with their layers; -1 is none.
type modelBuilding struct {
	states map[int]*modelState
	layers map[int][]string
	hits   []bool
}

// stage does a stage that begins with a base.
func (m *modelStore) stage(b *modelBuilding, stage modelStage, context []api.Entry) (*modelState, []string, error) {
	s, all := *b.states[stage.base], slices.Clone(b.layers[stage.base])
	for _, line := range stage.lines[1:] {
		if line.words[0].text == "ENV" {
			if number := s.step(line, nil); number != api.OK {
				return nil, nil, &api.At{Err: number, Place: line.words[0].place}
			}
			continue
		}
		source := context
		if line.stage >= 0 {
			source = b.states[line.stage].tree
		}
		key := s.key(line, source)
		layer, hit := m.found(&s, line, key)
		if !hit {
			var err error
			if layer, err = m.done(&s, line, source, key); err != nil {
				return nil, nil, err
			}
		}
		all = append(all, layer)
		b.hits = append(b.hits, hit)
	}
	return &s, all, nil
}

func (m *modelStore) build(text string, context []api.Entry) (api.Built, error) {
	stages, wrong := modelParse(text)
	if wrong != nil {
		return api.Built{}, &api.At{Err: wrong.number, Place: wrong.place}
	}
	if _, err := layers.Sum(context); err != nil {
		return api.Built{}, err
	}
	b := &modelBuilding{states: map[int]*modelState{-1: {env: map[string]string{}}}, layers: map[int][]string{}}
	for _, i := range modelPlan(stages) {
		var err error
		if b.states[i], b.layers[i], err = m.stage(b, stages[i], context); err != nil {
			return api.Built{}, err
		}
	}
	last, all := b.states[len(stages)-1], b.layers[len(stages)-1]
	var env []string
	for _, name := range slices.Sorted(maps.Keys(last.env)) {
		env = append(env, name+"="+last.env[name])
	}
	config := configText(env, all, "/"+last.work)
	manifest := manifestText(digest(config), all)
	if !m.has(config) || !m.has(manifest) {
		return api.Built{}, api.ErrFull
	}
	return api.Built{Manifest: digest(manifest), Layers: all, Hits: b.hits}, nil
}

// modelManifest: what a manifest says; false, if it is none.
func modelManifest(text string) (string, []string, bool) {
	var x struct {
		Config string
		Layers []string
	}
	err := json.Unmarshal([]byte(text), &x)
	for _, s := range append([]string{x.Config}, x.Layers...) {
		if !modelDigest.MatchString(s) {
			return "", nil, false
		}
	}
	return x.Config, x.Layers, err == nil && manifestText(x.Config, x.Layers) == text
}

// modelConfig: the variables and the directory of a config with these layers; false, if it is none.
func modelConfig(text string, want []string) ([]string, string, bool) {
	var x struct {
		Env, Layers []string
		Work        string
	}
	if err := json.Unmarshal([]byte(text), &x); err != nil || !slices.Equal(x.Layers, want) {
		return nil, "", false
	}
	ahead := ""
	for _, s := range x.Env {
		v := modelVariable.FindStringSubmatch(s)
		if v == nil || v[1] <= ahead {
			return nil, "", false
		}
		ahead = v[1]
	}
	if !strings.HasPrefix(x.Work, "/") || !modelPath(x.Work[1:]) {
		return nil, "", false
	}
	return x.Env, x.Work, configText(x.Env, x.Layers, x.Work) == text
}

func (m *modelStore) load(sum string) (api.Image, error) {
	text, ok := m.blob(sum)
	if !ok {
		return api.Image{}, api.ErrNone
	}
	config, all, ok := modelManifest(text)
	if !ok {
		return api.Image{}, api.ErrImage
	}
	if text, ok = m.blob(config); !ok {
		return api.Image{}, api.ErrNone
	}
	env, work, ok := modelConfig(text, all)
	if !ok {
		return api.Image{}, api.ErrImage
	}
	var tree []api.Entry
	for _, layer := range all {
		var number api.Errno
		if tree, number = m.stacked(tree, layer); number != api.OK {
			return api.Image{}, number
		}
	}
	return api.Image{Env: env, Work: work, Tree: tree}, nil
}

// someMade: a build file and a context, which mostly have a meaning, and that with a few steps.
func someMade(r *rand.Rand) (string, []api.Entry) {
	text, context := someFile(r), someContextOf(r)
	for range 50 * min(r.Intn(4), 1) {
		if _, err := layers.Make(text, context); err == nil && len(modelSteps.FindAllString(text, -1)) > 2 {
			break
		}
		text = someFile(r)
	}
	return text, context
}

// someTurned: a text with a byte turned, one less or one more, or with another piece of text in it.
func someTurned(r *rand.Rand, s string) string {
	i := r.Intn(len(s) + 1)
	j := min(i+r.Intn(2), len(s))
	return s[:i] + oneOf(r, "", "0", "a", "\n", " ", `"`, `\`, `\"`, ",", "/", "=", "A", "[", "]", "{", "}", `"A="`, `"A=x",`, "\x00", "\x7f", "\xff", digest("x")) + s[j:]
}

// someSpoiled: files of which one is not what it was: less, turned, or with the bytes, or a part of the bytes, of another one.
func someSpoiled(r *rand.Rand, l []api.Blob) []api.Blob {
	if len(l) == 0 {
		return nil
	}
	i := r.Intn(len(l))
	f, other := &l[i], l[r.Intn(len(l))]
	for f.Name[0] != 'c' && r.Intn(4) != 0 {
		i = r.Intn(len(l))
		f = &l[i]
	}
	switch r.Intn(6) {
	case 0:
		return slices.Delete(l, i, i+1)
	case 1:
		f.Data = someTurned(r, f.Data)
	case 2:
		f.Data = other.Data
	case 3:
		f.Data = strings.ToUpper(f.Data)
	default:
		if f.Name[0] == 'c' && len(f.Data) == 130 && len(other.Data) == 130 {
			f.Data = oneOf(r, other.Data[:65]+f.Data[65:], f.Data[:65]+other.Data[65:], other.Data[65:]+other.Data[:65], other.Data)
		} else if f.Name[0] == 'c' && len(f.Data) == 130 {
			f.Data = other.Name[2:] + f.Data[64:]
		}
	}
	return l
}

// someBlobText: a text that is there as a blob, as it is or turned.
func someBlobText(r *rand.Rand, l []api.Blob) string {
	for range 20 {
		if len(l) == 0 {
			break
		}
		f := l[r.Intn(len(l))]
		if strings.HasPrefix(f.Data, "{") {
			return someTurned(r, f.Data)
		}
	}
	return configText([]string{"A=x"}, nil, "/")
}

// playing: a store and its model, the build files that are met again and again, and the digests that may be loaded.
type playing struct {
	r        *rand.Rand
	s        *layers.Store
	m        *modelStore
	texts    []string
	contexts [][]api.Entry
	sums     []string
}

func newPlaying(t *testing.T, r *rand.Rand) *playing {
	t.Helper()
	quota := []int{api.MaxQuota, api.MaxQuota, r.Intn(40000)}[r.Intn(3)]
	p := &playing{r: r, s: opened(t, quota), m: &modelStore{quota: quota}, sums: []string{digest("none")}}
	for range 3 {
		text, context := someMade(r)
		p.texts, p.contexts = append(p.texts, text), append(p.contexts, context)
	}
	return p
}

// turn: one call; what the store answers, and what the model does.
func (p *playing) turn(t *testing.T) (string, string) {
	t.Helper()
	switch p.r.Intn(9) {
	case 0:
		quota := []int{p.m.quota, p.m.quota, p.m.quota, api.MaxQuota}[p.r.Intn(4)]
		l := someSpoiled(p.r, p.s.Files())
		p.s, p.m = opened(t, quota, l...), &modelStore{files: rising(l...), quota: quota}
		return "", ""
	case 1:
		data := someBlobText(p.r, p.s.Files())
		over := manifestText(digest(data), nil)
		p.sums = append(p.sums, digest(data), digest(over))
		return told(p.s.Put(data)) + told(p.s.Put(over)), p.m.put(data) + p.m.put(over)
	case 2, 3, 4:
		sum := oneOf(p.r, p.sums...)
		return imageTold(p.s.Load(sum)), imageTold(p.m.load(sum))
	}
	i := p.r.Intn(len(p.texts))
	got, err := p.s.Build(p.texts[i], p.contexts[i])
	p.sums = append(p.sums, got.Manifest, got.Manifest)
	return builtTold(got, err), builtTold(p.m.build(p.texts[i], p.contexts[i]))
}

// Stores and their model answer alike, whatever was built, dropped, spoiled or put before, and do the same.
func TestBuildsAsModel(t *testing.T) {
	r := rand.New(rand.NewSource(16))
	words := []string{"true", "false", "error 5", "error 8", "error 9", "error 12", "error 13", "error 14", "<nil>"}
	met := map[string]int{}
	for range 500 {
		p := newPlaying(t, r)
		for range 14 {
			got, want := p.turn(t)
			if got != want || !slices.Equal(p.s.Files(), p.m.files) {
				t.Fatalf("P16 to P18: of %q with %v: %s; want %s; files %.3000q; want %.3000q", p.texts, p.contexts, got, want, p.s.Files(), p.m.files)
			}
			checkActs(t, p.s, p.m.acts...)
			p.m.acts = nil
			for _, word := range words {
				if strings.Contains(want, word) {
					met[word]++
				}
			}
		}
	}
	for _, word := range words {
		if met[word] < 10 {
			t.Errorf("%s was met %d times; want more: %v", word, met[word], met)
		}
	}
}
