package layers_test

import (
	"fmt"
	"maps"
	"math/rand"
	"regexp"
	"slices"
	"strconv"
	"strings"
	"testing"

	"layers/api"
	"layers/layers"
)

// A second reading of P9 to P12: a text is gone through byte by byte, a word is a text in which \x00NAME\x01 stands for a variable, and trees are lists; many build files are held against it.

type modelWord struct {
	place     int
	text      string
	variables []int // the places of their dollars
}

type modelLine struct {
	words []modelWord
	stage int // the one that is named; -1: none
}

type modelStage struct {
	name  string
	base  int
	lines []modelLine
}

// modelFault: what is wrong, and where.
type modelFault struct {
	number api.Errno
	place  int
}

var (
	modelDollar = regexp.MustCompile(`^\$(?:([A-Z][A-Z0-9_]*)|\{([A-Z][A-Z0-9_]*)\})`)
	modelMark   = regexp.MustCompile("\x00([A-Z0-9_]*)\x01")
	modelQuoted = regexp.MustCompile(`^\\["\\$]`)
	modelName   = regexp.MustCompile(`^[a-z][a-z0-9]{0,9}$`)
	modelVar    = regexp.MustCompile(`^[A-Z][A-Z0-9_]{0,9}$`)
	modelMode   = regexp.MustCompile(`^[0-7]{3}$`)
	modelTarget = regexp.MustCompile(`^[!-~]{1,100}$`)
	modelOther  = regexp.MustCompile(`[^A-Za-z0-9./_=:-]`)
)

func (w modelWord) plain() bool { return len(w.variables) == 0 }

func (w modelWord) form() string {
	if w.text == "" {
		return `""`
	}
	var b strings.Builder
	for w.text != "" {
		m := modelMark.FindStringIndex(w.text)
		if m == nil {
			m = []int{len(w.text), len(w.text)}
		}
		b.WriteString(modelOther.ReplaceAllString(w.text[:m[0]], `\$0`))
		if m[1] > m[0] {
			b.WriteString("${" + w.text[m[0]+1:m[1]-1] + "}")
		}
		w.text = w.text[m[1]:]
	}
	return b.String()
}

func (w modelWord) value(env map[string]string) string {
	return modelMark.ReplaceAllStringFunc(w.text, func(s string) string { return env[s[1:len(s)-1]] })
}

// modelWords: the words of the line that begins at i, where the next one begins, and the place of what is wrong, or -1.
func modelWords(text string, i int) ([]modelWord, int, int) {
	var l []modelWord
	inWord, open := false, -1
	for {
		rest := text[i:]
		switch {
		case (rest == "" || rest[0] == '\n') && open >= 0:
			return nil, 0, open
		case rest == "" || rest[0] == '\n':
			return l, i + 1, -1
		case open < 0 && rest[0] == ' ':
			inWord = false
			i++
			continue
		case open < 0 && strings.HasPrefix(rest, "\\\n"):
			inWord = false
			i += 2
			continue
		case len(l) == 0 && rest[0] == '#':
			i += len(strings.Split(rest, "\n")[0])
			continue
		}
		if !inWord {
			l = append(l, modelWord{place: i})
			inWord = true
		}
		w := &l[len(l)-1]
		switch {
		case rest[0] == '"' && open < 0:
			open = i
			i++
		case rest[0] == '"':
			open = -1
			i++
		case rest[0] == '\\' && (len(rest) == 1 || open >= 0 && !modelQuoted.MatchString(rest)):
			return nil, 0, i
		case rest[0] == '\\':
			w.text += rest[1:2]
			i += 2
		case rest[0] == '$':
			m := modelDollar.FindStringSubmatch(rest)
			if m == nil || len(m[1]+m[2]) > api.MaxVar {
				return nil, 0, i
			}
			w.text += "\x00" + m[1] + m[2] + "\x01"
			w.variables = append(w.variables, i)
			i += len(m[0])
		default:
			w.text += rest[:1]
			i++
		}
	}
}

// modelParse: the stages, or what is wrong.
func modelParse(text string) ([]modelStage, *modelFault) {
	if len(text) > api.MaxText {
		return nil, &modelFault{api.ErrBound, api.MaxText}
	}
	for i := range len(text) {
		if c := text[i]; c != '\n' && (c < ' ' || c > '~') {
			return nil, &modelFault{api.ErrSyntax, i}
		}
	}
	var stages []modelStage
	count := 0
	for i := 0; i < len(text); {
		l, next, wrong := modelWords(text, i)
		if wrong >= 0 {
			return nil, &modelFault{api.ErrSyntax, wrong}
		}
		i = next
		if len(l) == 0 {
			continue
		}
		line := modelLine{words: l, stage: -1}
		if f := modelCheck(stages, &line, count); f != nil {
			return nil, f
		}
		if l[0].text == "FROM" {
			s := modelStage{base: line.stage}
			if len(l) == 4 {
				s.name = l[3].text
			}
			stages = append(stages, s)
		}
		last := &stages[len(stages)-1]
		last.lines = append(last.lines, line)
		count++
	}
	if count == 0 {
		return nil, &modelFault{api.ErrSyntax, len(text)}
	}
	return stages, nil
}

// modelCheck: all that may be wrong with a line, in the order of the document; the first that is.
func modelCheck(stages []modelStage, line *modelLine, count int) *modelFault {
	l := slices.Concat(line.words, make([]modelWord, 9))
	n := len(line.words) - 1
	find := func(name string) int {
		return slices.IndexFunc(stages, func(s modelStage) bool { return s.name == name })
	}
	isName := func(w modelWord) bool { return w.plain() && modelName.MatchString(w.text) }
	counts := map[string]string{"FROM": "123", "COPY": "23", "ADD": "2", "RM": "1", "MKDIR": "12", "LINK": "2", "ENV": "2", "WORKDIR": "1"}
	word := l[0].text
	from := strings.HasPrefix(l[1].text, "--from=") && l[1].plain()
	source := modelWord{text: strings.TrimPrefix(l[1].text, "--from=")}
	is := func(s string) bool { return word == s }
	for _, x := range []struct {
		bad    bool
		number api.Errno
		place  int
	}{
		{!l[0].plain() || counts[word] == "", api.ErrSyntax, l[0].place},
		{!is("FROM") && len(stages) == 0, api.ErrSyntax, l[0].place},
		{!strings.Contains(counts[word], strconv.Itoa(n)), api.ErrSyntax, l[0].place},
		{is("FROM") && n >= 2 && l[2].text != "AS", api.ErrSyntax, l[2].place},
		{is("FROM") && n == 2, api.ErrSyntax, l[0].place},
		{is("FROM") && n == 3 && !isName(l[3]), api.ErrSyntax, l[3].place},
		{is("FROM") && !isName(l[1]), api.ErrSyntax, l[1].place},
		{is("FROM") && l[1].text != "scratch" && find(l[1].text) < 0, api.ErrStage, l[1].place},
		{is("FROM") && n == 3 && (l[3].text == "scratch" || find(l[3].text) >= 0), api.ErrStage, l[3].place},
		{is("FROM") && len(stages) == api.MaxStages, api.ErrBound, l[0].place},
		{is("COPY") && from != (n == 3), api.ErrSyntax, l[0].place},
		{is("COPY") && from && !isName(source), api.ErrSyntax, l[1].place},
		{is("COPY") && from && (find(source.text) < 0 || find(source.text) == len(stages)-1), api.ErrStage, l[1].place},
		{is("MKDIR") && n == 2 && !(l[2].plain() && modelMode.MatchString(l[2].text)), api.ErrSyntax, l[2].place},
		{is("ENV") && !(l[1].plain() && modelVar.MatchString(l[1].text)), api.ErrSyntax, l[1].place},
	} {
		if x.bad {
			return &modelFault{x.number, x.place}
		}
	}
	if is("FROM") && l[1].text != "scratch" {
		line.stage = find(l[1].text)
	}
	if is("COPY") && from {
		line.stage = find(source.text)
	}
	if place := modelUnset(stages, line); place >= 0 {
		return &modelFault{api.ErrVar, place}
	}
	if count >= api.MaxSteps {
		return &modelFault{api.ErrBound, l[0].place}
	}
	return nil
}

// modelUnset: the place of the first variable of a line that is not set; -1, if there is none.
func modelUnset(stages []modelStage, line *modelLine) int {
	set := map[string]bool{}
	for i := len(stages) - 1; i >= 0; i = stages[i].base {
		for _, l := range stages[i].lines {
			if l.words[0].text == "ENV" {
				set[l.words[1].text] = true
			}
		}
	}
	for _, w := range line.words {
		for k, m := range modelMark.FindAllStringSubmatch(w.text, -1) {
			if !set[m[1]] {
				return w.variables[k]
			}
		}
	}
	return -1
}

func modelForm(stages []modelStage) string {
	var b strings.Builder
	for _, s := range stages {
		for _, l := range s.lines {
			for i, w := range l.words {
				b.WriteString(strings.Repeat(" ", min(i, 1)) + w.form())
			}
			b.WriteString("\n")
		}
	}
	return b.String()
}

// modelNeeds: stage i, and what it needs.
func modelNeeds(stages []modelStage, i int) map[int]bool {
	all := map[int]bool{i: true}
	for _, l := range stages[i].lines {
		if l.stage >= 0 {
			maps.Copy(all, modelNeeds(stages, l.stage))
		}
	}
	return all
}

func modelPlan(stages []modelStage) []int {
	return slices.Sorted(maps.Keys(modelNeeds(stages, len(stages)-1)))
}

// modelState: a stage that is done.
type modelState struct {
	env  map[string]string
	work string
	tree []api.Entry
}

func (s *modelState) image() string {
	var env []string
	for _, name := range slices.Sorted(maps.Keys(s.env)) {
		env = append(env, name+"="+s.env[name])
	}
	return fmt.Sprintf("%q /%s %v", env, s.work, s.tree)
}

// cant: how a step of the second reading ends that can't be done.
type cant api.Errno

func must(ok bool, number api.Errno) {
	if !ok {
		panic(cant(number))
	}
}

func modelResolve(work, path string) string {
	out, err := layers.Resolve(work, path)
	must(err == nil, api.ErrPath)
	return out
}

func modelPath(path string) bool {
	out, err := layers.Resolve("", path)
	return err == nil && out == path
}

// put: P6 for one entry, without its bound.
func (s *modelState) put(e api.Entry) {
	must(isDirAt(s.tree, dirOf(e.Path)), api.ErrKind)
	stays := e.Kind == api.Dir && isDirAt(s.tree, e.Path)
	s.tree = slices.DeleteFunc(slices.Clone(s.tree), func(x api.Entry) bool {
		return x.Path == e.Path || isUnder(x.Path, e.Path) && !stays
	})
	s.tree = append(s.tree, e)
	slices.SortFunc(s.tree, func(x, y api.Entry) int { return treeOrder(x.Path, y.Path) })
}

func (s *modelState) make(path string) {
	must(modelPath(path), api.ErrPath)
	if path == "" {
		return
	}
	s.make(dirOf(path))
	e, there := entryAt(s.tree, path)
	must(!there || e.Kind == api.Dir, api.ErrKind)
	if !there {
		s.put(dir(path, 0755))
	}
}

func (s *modelState) lay(e api.Entry) {
	old, there := entryAt(s.tree, e.Path)
	must(!there || (old.Kind == api.Dir) == (e.Kind == api.Dir), api.ErrKind)
	must(modelPath(e.Path), api.ErrPath)
	s.put(e)
}

// behind: a path behind another one.
func behind(top, path string) string {
	return strings.TrimPrefix(top+"/"+strings.TrimPrefix(path, "/"), "/")
}

func (s *modelState) do(word string, w []string, source []api.Entry) {
	var src, dst string
	var e api.Entry
	if word == "COPY" || word == "ADD" {
		src, dst = modelResolve("", w[0]), modelResolve(s.work, w[1])
		var there bool
		e, there = entryAt(source, src)
		must(there, api.ErrMissing)
	}
	switch word {
	case "COPY":
		if e.Kind == api.Dir {
			s.make(dst)
			for _, x := range source {
				if isUnder(x.Path, src) {
					x.Path = behind(dst, x.Path[len(src):])
					s.lay(x)
				}
			}
			return
		}
		if strings.HasSuffix(w[1], "/") || isDirAt(s.tree, dst) {
			dst = behind(dst, src[strings.LastIndex(src, "/")+1:])
		}
		s.make(dirOf(dst))
		e.Path = dst
		s.lay(e)
	case "ADD":
		must(e.Kind == api.File, api.ErrKind)
		l, err := layers.Unpack(e.Data)
		must(err == nil, api.ErrTar)
		s.make(dst)
		for _, c := range l {
			must(c.Kind != api.Gone && c.Kind != api.Clear, api.ErrTar)
			c.Path = behind(dst, c.Path)
			s.make(dirOf(c.Path))
			s.lay(api.Entry(c))
		}
	case "RM":
		path := modelResolve(s.work, w[0])
		must(path != "", api.ErrKind)
		_, there := entryAt(s.tree, path)
		must(there, api.ErrMissing)
		s.tree = slices.DeleteFunc(slices.Clone(s.tree), func(x api.Entry) bool { return x.Path == path || isUnder(x.Path, path) })
	case "MKDIR":
		path := modelResolve(s.work, w[0])
		s.make(path)
		if len(w) == 2 {
			must(path != "", api.ErrKind)
			mode, _ := strconv.ParseInt(w[1], 8, 0)
			s.put(dir(path, int(mode)))
		}
	case "LINK":
		must(modelTarget.MatchString(w[0]), api.ErrPath)
		path := modelResolve(s.work, w[1])
		must(path != "", api.ErrKind)
		s.make(dirOf(path))
		s.lay(link(path, w[0]))
	case "ENV":
		s.env = maps.Clone(s.env)
		s.env[w[0]] = w[1]
	case "WORKDIR":
		path := modelResolve(s.work, w[0])
		s.make(path)
		s.work = path
	}
}

// step: one line; OK, or why it can't be done.
func (s *modelState) step(line modelLine, source []api.Entry) (number api.Errno) {
	defer func() {
		switch p := recover().(type) {
		case nil:
		case cant:
			number = api.Errno(p)
		default:
			panic(p)
		}
	}()
	l := line.words[1:]
	if line.stage >= 0 {
		l = l[1:]
	}
	var w []string
	for _, x := range l {
		w = append(w, x.value(s.env))
		must(len(w[len(w)-1]) <= api.MaxValue, api.ErrBound)
	}
	s.do(line.words[0].text, w, source)
	must(len(s.tree) <= api.MaxEntries, api.ErrBound)
	return api.OK
}

// modelMake: the image of the last stage, as a text, or what can't be done.
func modelMake(stages []modelStage, context []api.Entry) (string, *modelFault) {
	done := map[int]*modelState{-1: {env: map[string]string{}}}
	for _, i := range modelPlan(stages) {
		s := *done[stages[i].base]
		for _, line := range stages[i].lines[1:] {
			source := context
			if line.stage >= 0 {
				source = done[line.stage].tree
			}
			if number := s.step(line, source); number != api.OK {
				return "", &modelFault{number, line.words[0].place}
			}
		}
		done[i] = &s
	}
	return done[len(stages)-1].image(), nil
}

// checkFile: Parse, Plan and Make tell what the second reading tells; and which error that is.
func checkFile(t *testing.T, text string, context []api.Entry) api.Errno {
	t.Helper()
	stages, wrong := modelParse(text)
	if wrong != nil {
		checkNoParse(t, text, wrong.number, wrong.place)
		return wrong.number
	}
	checkParse(t, text, modelForm(stages))
	if form := modelForm(stages); len(form) <= api.MaxText {
		checkParse(t, form, form)
	}
	checkPlan(t, text, modelPlan(stages)...)
	want, wrong := modelMake(stages, context)
	if wrong != nil {
		checkNoMake(t, text, context, wrong.number, wrong.place)
		return wrong.number
	}
	got, err := layers.Make(text, context)
	s := fmt.Sprintf("%q %s %v", got.Env, got.Work, got.Tree)
	if err != nil || s != want {
		t.Errorf("P12: Make(%q) with %v: %s, %v; want %s", text, context, s, err, want)
	}
	return api.OK
}

// oneOf: one of texts.
func oneOf(r *rand.Rand, l ...string) string {
	return l[r.Intn(len(l))]
}

// someWord: a path, mostly short, sometimes with something strange in it.
func someWord(r *rand.Rand) string {
	switch r.Intn(24) {
	case 0:
		return oneOf(r, "..", ".", "/", `""`, "../..", "a/../b", "./a", "//", ".wh.a", `"a b"`, `\"`, "a:b", strings.Repeat("a/", 11), strings.Repeat("b/", 12)+"b", strings.Repeat("n", 60)+"/"+strings.Repeat("n", 60)+"/"+strings.Repeat("n", 46), strings.Repeat("v", 180), strings.Repeat("v", 181))
	case 1:
		return oneOf(r, "$A", "$B", "${A}", "x$A", "$A$B", `"$A"`, "$A/b", "$ABCDEFGHIJ", "${B}a", "\\$A", `"\$"`)
	case 2:
		return somePath(r) + "/"
	case 3:
		return "/" + somePath(r)
	case 4:
		return oneOf(r, "t", "u", "v", "t/a", ".")
	}
	return somePath(r)
}

func someInstruction(r *rand.Rand, stages int) string {
	stage := fmt.Sprintf("s%d", r.Intn(stages+1))
	switch r.Intn(18) {
	case 0:
		return "RM " + someWord(r)
	case 1, 2:
		return "MKDIR " + someWord(r)
	case 3:
		return "MKDIR " + someWord(r) + " " + oneOf(r, "700", "755", "000", "711", "755", "70")
	case 4, 5:
		return "LINK " + oneOf(r, "x", "a/b", "..", someWord(r)) + " " + someWord(r)
	case 6:
		return "WORKDIR " + someWord(r)
	case 7, 8:
		return "ENV " + oneOf(r, "A", "B", "A1", "AB") + " " + oneOf(r, "a", "b", "a/b", "$A$A", `""`, "x=y", someWord(r))
	case 9, 10:
		return "ADD " + oneOf(r, "t", "u", "v", "a", "d", "t") + " " + someWord(r)
	case 11, 12:
		return "COPY --from=" + stage + " " + oneOf(r, ".", "a", "b", someWord(r)) + " " + someWord(r)
	}
	return "COPY " + oneOf(r, ".", "a", "b", "a/a", someWord(r)) + " " + someWord(r)
}

// someFile: a build file, in which not much is wrong.
func someFile(r *rand.Rand) string {
	var b strings.Builder
	for stage := range 1 + r.Intn(3) {
		base := "scratch"
		if stage > 0 && r.Intn(2) == 0 {
			base = fmt.Sprintf("s%d", r.Intn(stage))
		}
		fmt.Fprintf(&b, "FROM %s AS s%d\nENV A a\nENV B b\n", base, stage)
		for range r.Intn(5) {
			b.WriteString(someInstruction(r, stage) + oneOf(r, "\n", "\n", " \\\n\n", "\n# x\n"))
		}
	}
	return b.String()
}

// someContextOf: a tree, with archives in it.
func someContextOf(r *rand.Rand) []api.Entry {
	l := someTree(r)
	l = l[:min(len(l), api.MaxEntries-3)]
	for _, path := range []string{"t", "u", "v"} {
		var c []api.Change
		for range r.Intn(4) {
			x := someChange(r)
			if x.Kind >= api.Gone && r.Intn(3) != 0 {
				x = put(dir(somePath(r), 0711))
			}
			c = append(c, x)
		}
		slices.SortStableFunc(c, func(x, y api.Change) int { return treeOrder(x.Path, y.Path) })
		s, err := layers.Pack(c)
		if err != nil {
			s = "none"
		}
		l = append(l, file(path, 0644, s))
	}
	return l
}

func TestP12ManyFiles(t *testing.T) {
	r := rand.New(rand.NewSource(7))
	seen := map[api.Errno]int{}
	for range 30000 {
		seen[checkFile(t, someFile(r), someContextOf(r))]++
	}
	for _, number := range []api.Errno{api.OK, api.ErrPath, api.ErrTar, api.ErrSyntax, api.ErrStage, api.ErrVar, api.ErrMissing, api.ErrKind, api.ErrBound} {
		if seen[number] < 30 {
			t.Errorf("error %d was met %d times; want more: %v", number, seen[number], seen)
		}
	}
}

// someDamaged: a build file in which bytes, or lines, are taken away, put in, or others.
func someDamaged(r *rand.Rand) string {
	s := someFile(r)
	for range 1 + r.Intn(4) {
		i := r.Intn(len(s) + 1)
		j := min(i+r.Intn(3), len(s))
		s = s[:i] + oneOf(r, "", "\"", "\\", "$", "\\\n", "\n", " ", "#", "{", "}", "A", "$A", "${A}", "\"\"", "\\\\", " AS ", "\nFROM ", "FROM scratch AS x\n", "--from=", "_", "9", "\x00", "\nENV ", " x", "$ABCDEFGHIJK") + s[j:]
	}
	return s
}

func TestP10ManyDamaged(t *testing.T) {
	r := rand.New(rand.NewSource(8))
	seen := map[api.Errno]int{}
	for range 60000 {
		seen[checkFile(t, someDamaged(r), nil)]++
	}
	if seen[api.OK] < 100 || seen[api.ErrSyntax] < 100 || seen[api.ErrStage] < 100 || seen[api.ErrVar] < 100 {
		t.Errorf("met: %v", seen)
	}
}

// All short lines of the bytes that mean something.
func TestP9AllShortWords(t *testing.T) {
	const bytes = "\"\\$\n #{}Aa"
	var each func(s string, n int)
	each = func(s string, n int) {
		checkFile(t, "FROM scratch\nENV A x\nRM "+s, nil)
		checkFile(t, s+"\nFROM scratch", nil)
		if n > 0 {
			for i := range len(bytes) {
				each(s+bytes[i:i+1], n-1)
			}
		}
	}
	each("", 4)
}
