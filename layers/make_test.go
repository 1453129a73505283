package layers_test

import (
	"fmt"
	"math"
	"slices"
	"strings"
	"testing"

	"layers/api"
	"layers/layers"
	"layers/plain"
)

// someContext: all kinds, deep and flat, and files with archives: `t`, with all kinds of entries, `none`, without any, `gone` and `clear`, with marks behind a Dir.
func someContext(t *testing.T) []api.Entry {
	t.Helper()
	return []api.Entry{
		file("clear", 0, packed(t, put(dir("x", 0711)), cleared("x"))),
		dir("d", 0700), dir("d/e", 0711), file("d/e/g", 0600, "g"), file("d/f", 0640, "f"), link("d/l", "f"),
		file("f", 0644, "top"),
		file("gone", 0, packed(t, put(dir("x", 0711)), gone("y"))),
		link("l", "d"),
		file("none", 0, packed(t)),
		file("t", 0, packed(t, put(dir("p", 0700)), put(file("p/q", 0604, "in")), put(link("r", "p")), put(file("u/v/w", 0, "")))),
	}
}

// checkImage: what a text means, and is built as.
func checkImage(t *testing.T, text string, context []api.Entry, env, work string, want ...api.Entry) {
	t.Helper()
	got, err := layers.Make(text, context)
	if err != nil || strings.Join(got.Env, ",") != env || got.Work != work || !slices.Equal(got.Tree, want) {
		t.Errorf("P12: Make(%q): %v, %v; want %s, %s, %v", text, got, err, env, work, want)
	}
	checkBuilt(t, text, context, got)
}

// checkMade: behind a FROM, these lines make this tree, and nothing else.
func checkMade(t *testing.T, lines string, want ...api.Entry) {
	t.Helper()
	checkImage(t, begun(lines), someContext(t), "", "/", want...)
}

// checkCant: behind a FROM, the instruction at `¶` can't be done.
func checkCant(t *testing.T, number api.Errno, lines ...string) {
	t.Helper()
	for _, s := range lines {
		text, place := at(begun(s))
		checkNoMake(t, text, someContext(t), number, place)
	}
}

// checkNoMake: the error of Make, which Build tells, too; and nothing beside it.
func checkNoMake(t *testing.T, text string, context []api.Entry, number api.Errno, place int) {
	t.Helper()
	if got, err := layers.Make(text, context); !isNoImage(got) || !isAt(err, number, place) {
		t.Errorf("P12: Make(%q): %v, %v; want error %d at %d", text, got, err, number, place)
	}
	checkNoBuild(t, opened(t, api.MaxQuota), text, context, number, place)
}

// made: a directory as it is made.
func made(path string) api.Entry {
	return dir(path, 0755)
}

func TestP12Examples(t *testing.T) {
	context := []api.Entry{dir("src", 0755), file("src/main", 0644, "hi")}
	checkImage(t, begun("COPY src /app"), context, "", "/", dir("app", 0755), file("app/main", 0644, "hi"))
	for _, x := range []struct {
		lines  string
		number api.Errno
	}{
		{"¶RM x", api.ErrMissing}, {"MKDIR ¶$A", api.ErrVar}, {"MKDIR ¶\"a", api.ErrSyntax}, {"¶ADD src/main /", api.ErrTar}, {"COPY src/main a\n¶MKDIR a/b", api.ErrKind}, {"WORKDIR /a/b\n¶MKDIR ../../../c", api.ErrPath},
	} {
		text, place := at(begun(x.lines))
		checkNoMake(t, text, context, x.number, place)
	}
	checkImage(t, "FROM scratch\nRM x\nFROM scratch\nMKDIR a", context, "", "/", made("a"))
}

func TestP12Context(t *testing.T) {
	checkNoMake(t, begun(""), []api.Entry{dir("a", 0), dir("a", 0)}, api.ErrTree, 1)
	checkNoMake(t, begun("RM x"), []api.Entry{{}}, api.ErrTree, 0)
	checkNoMake(t, begun("ENV A "+strings.Repeat("v", 200)), numbered(api.MaxEntries+1), api.ErrTree, api.MaxEntries)
	checkImage(t, begun(""), numbered(api.MaxEntries), "", "/")
	checkImage(t, begun("COPY . ."), numbered(api.MaxEntries), "", "/", numbered(api.MaxEntries)...)
}

func TestP12Variables(t *testing.T) {
	checkImage(t, begun("ENV B x\nENV A $B\nENV B y\nMKDIR $A$B"), nil, "A=x,B=y", "/", made("xy"))
	// By names, not by what is told of them: `1` is less than `=`.
	checkImage(t, begun("ENV A_ 1\nENV AB 2\nENV A1 3\nENV A 4\nENV Z 5\nENV B 6"), nil, "A=4,A1=3,AB=2,A_=1,B=6,Z=5", "/")
	checkImage(t, begun("ENV A \"\"\nENV B \"=x y=\""), nil, "A=,B==x y=", "/")
	checkImage(t, begun("ENV A x\nENV A $A$A\nENV A \"$A \\$A\""), nil, "A=xx $A", "/")
	checkImage(t, begun("ENV A d/\nENV B /\nCOPY ${A}f \"${B}x$B\"\nWORKDIR $A$B$A\nLINK $A l"), someContext(t), "A=d/,B=/", "/d/d", made("d"), made("d/d"), link("d/d/l", "d/"), made("x"), file("x/f", 0640, "f"))
	// A value is a part of a word, however it looks.
	checkImage(t, begun("ENV A \"a b\"\nENV B $A\nENV C \\$A\nENV D \"\\\"$C\""), nil, `A=a b,B=a b,C=$A,D="$A`, "/")
	checkCant(t, api.ErrPath, "ENV A \"a b\"\n¶MKDIR $A")
}

func TestP12MaxValue(t *testing.T) {
	v := strings.Repeat("v", api.MaxValue)
	checkImage(t, begun("ENV A "+v+"\nENV B $A"), nil, "A="+v+",B="+v, "/")
	checkImage(t, begun("ENV A "+v[1:]+"\nENV B ${A}v"), nil, "A="+v[1:]+",B="+v, "/")
	// So many bytes as a path may not have: what is asked first is the word.
	for _, s := range []string{"RM %s", "MKDIR %s", "MKDIR %s 755", "WORKDIR %s", "COPY %s nope", "COPY nope %s", "COPY --from=one %s nope", "COPY --from=one nope %s", "ADD %s nope", "ADD nope %s", "LINK %s x", "LINK x %s"} {
		text := "FROM scratch AS one\nENV A " + v + "\nFROM one\n"
		for _, word := range []string{"v" + v, "v$A", "${A}v", "$A$A"} {
			checkNoMake(t, text+fmt.Sprintf(s, word), nil, api.ErrBound, len(text))
		}
		for _, word := range []string{v, "$A"} {
			if _, err := layers.Make(text+fmt.Sprintf(s, word), nil); !isAt(err, api.ErrPath, len(text)) && !isAt(err, api.ErrMissing, len(text)) {
				t.Errorf("P12: %s of %d bytes: %v", s, len(v), err)
			}
		}
	}
	checkCant(t, api.ErrBound, "¶ENV A v"+v, "ENV A "+v+"\n¶ENV A v$A", "MKDIR a\n  ¶MKDIR a"+v)
	// Resolved it may be short: it is a word all the same.
	checkMade(t, "MKDIR "+strings.Repeat("/", api.MaxValue-1)+"a", made("a"))
	checkCant(t, api.ErrBound, "¶MKDIR "+strings.Repeat("/", api.MaxValue)+"a")
	// Nothing is asked of a stage that is not needed.
	checkMade(t, "ENV A v"+v+"\nFROM scratch")
}

func TestP12Stages(t *testing.T) {
	const one = "FROM scratch AS one\nENV A x\nENV B y\nMKDIR a/b 700\nWORKDIR w\n"
	tree := []api.Entry{made("a"), dir("a/b", 0700), made("w")}
	checkImage(t, one+"FROM one", nil, "A=x,B=y", "/w", tree...)
	checkImage(t, one+"FROM one AS two\nFROM two", nil, "A=x,B=y", "/w", tree...)
	checkImage(t, one+"FROM scratch", nil, "", "/")
	checkImage(t, one+"FROM one\nENV A z\nENV C $B\nMKDIR $A\nRM /a\nWORKDIR ..", nil, "A=z,B=y,C=y", "/", made("w"), made("w/z"))
	// What a stage does stays there, whatever others begin with it.
	checkImage(t, one+"FROM one AS two\nENV A z\nENV C c\nRM /a\nMKDIR /w 711\nWORKDIR x\nCOPY f f\nFROM one\nCOPY --from=two w/x/f /f", someContext(t), "A=x,B=y", "/w", made("a"), dir("a/b", 0700), file("f", 0644, "top"), made("w"))
	checkImage(t, one+"FROM one AS two\nMKDIR /a/b/c 711\nMKDIR /a 711\nFROM one\nCOPY --from=one . /c\nCOPY --from=two a /d", nil, "A=x,B=y", "/w", made("a"), dir("a/b", 0700), made("c"), made("c/a"), dir("c/a/b", 0700), made("c/w"), made("d"), dir("d/b", 0700), dir("d/b/c", 0711), made("w"))
	// src is looked for in the root of the stage that is named, not in its directory; dst in the directory of this one.
	checkImage(t, one+"COPY f f\nFROM scratch\nWORKDIR v\nCOPY --from=one w/f g", someContext(t), "", "/v", made("v"), file("v/g", 0644, "top"))
	checkCant(t, api.ErrMissing, "FROM scratch AS one\nWORKDIR w\nCOPY f f\nFROM scratch\n¶COPY --from=one f g", "FROM scratch AS one\nFROM scratch\n¶COPY --from=one f g", "FROM scratch AS one\nMKDIR q\nFROM scratch\nMKDIR r\n¶COPY --from=one r s")
}

func TestP12NeededStages(t *testing.T) {
	// Only what is needed is done, and that in order.
	checkMade(t, "RM x\nFROM scratch AS two\nRM y\nFROM scratch")
	checkCant(t, api.ErrMissing,
		"FROM scratch AS one\n¶RM x\nFROM one\nRM y", "FROM scratch AS one\nRM x\nFROM scratch\n¶RM y", "FROM scratch AS one\n¶RM x\nFROM scratch\nRM y\nCOPY --from=one a b", "FROM scratch AS one\n¶RM x\nFROM one AS two\nFROM two", "FROM scratch AS one\nMKDIR a\n¶RM b\nRM c",
	)
	checkCant(t, api.ErrKind, "RM x\nFROM scratch AS two\n¶RM .\nFROM scratch\nCOPY --from=two a b")
}

func TestP12CopyOne(t *testing.T) {
	top := func(path string) api.Entry { return file(path, 0644, "top") }
	checkMade(t, "COPY f a", top("a"))
	checkMade(t, "COPY /f /a", top("a"))
	checkMade(t, "COPY ./x/../f ./x/../a", top("a"))
	checkMade(t, "COPY f a/b/c", made("a"), made("a/b"), top("a/b/c"))
	checkMade(t, "COPY f a/", made("a"), top("a/f"))
	checkMade(t, "COPY f a/b//", made("a"), made("a/b"), top("a/b/f"))
	checkMade(t, "COPY d/f /", file("f", 0640, "f"))
	checkMade(t, "COPY d/f .", file("f", 0640, "f"))
	checkMade(t, `COPY d/f ""`, file("f", 0640, "f"))
	checkMade(t, "COPY d/e/g a/../", file("g", 0600, "g"))
	checkMade(t, "MKDIR a 700\nCOPY f a", dir("a", 0700), top("a/f"))
	checkMade(t, "MKDIR a 700\nCOPY f a/f", dir("a", 0700), top("a/f"))
	checkMade(t, "COPY d/l a/b", made("a"), link("a/b", "f"))
	checkMade(t, "COPY l a", link("a", "d"))
	// A slash at the end of src says nothing, and a Link leads nowhere.
	checkMade(t, "COPY f/ a", top("a"))
	checkMade(t, "COPY l/ a", link("a", "d"))
	// What is no Dir may go in the place of what is none.
	checkMade(t, "COPY f a\nCOPY d/f a", file("a", 0640, "f"))
	checkMade(t, "COPY f a\nCOPY l a", link("a", "d"))
	checkMade(t, "LINK x a\nCOPY f a", top("a"))
	checkMade(t, "COPY f .\nCOPY d/f .", file("f", 0640, "f"))
	checkImage(t, begun("WORKDIR w\nCOPY f a\nCOPY f /b\nCOPY f ../c\nCOPY f ."), someContext(t), "", "/w", top("b"), top("c"), made("w"), top("w/a"), top("w/f"))
	// The directory may be gone.
	checkImage(t, begun("WORKDIR a\nRM /a\nCOPY f ."), someContext(t), "", "/a", top("a"))
	checkImage(t, begun("WORKDIR a/b\nRM /a\nCOPY f c"), someContext(t), "", "/a/b", made("a"), made("a/b"), top("a/b/c"))
	checkCant(t, api.ErrKind, "COPY f a\n¶COPY f a/", "COPY f a\n¶COPY f a/b", "COPY f a\n¶COPY f a/b/c/", "LINK x a\n¶COPY f a/", "LINK x a\n¶COPY f a/b", "MKDIR f\n¶COPY f .", "MKDIR a/f\n¶COPY f a", "MKDIR a/f\n¶COPY f a/", "MKDIR a/f\n¶COPY f /a/")
	checkCant(t, api.ErrMissing, "¶COPY x a", "¶COPY d/x a", "¶COPY f/x a", "¶COPY l/f a", "¶COPY d/l/x a", "COPY f x\n¶COPY x a")
	checkCant(t, api.ErrPath, "¶COPY ../f a", "¶COPY f ..", "¶COPY x ..", "¶COPY .. ..", "¶COPY \"a b\" c", "¶COPY f .wh.a", "¶COPY f "+strings.Repeat("n", api.MaxName+1), "WORKDIR w\n¶COPY ../f a", "WORKDIR w\n¶COPY f ../..", "¶COPY f/../.. a", "¶COPY d/../../f a")
	checkCant(t, api.ErrPath, "¶COPY f "+strings.Repeat("a/", api.MaxDeep), "¶COPY f "+strings.Repeat("a/", api.MaxDeep)+"a")
}

func TestP12CopyBelow(t *testing.T) {
	below := func(top string) []api.Entry {
		return []api.Entry{dir(top+"e", 0711), file(top+"e/g", 0600, "g"), file(top+"f", 0640, "f"), link(top+"l", "f")}
	}
	checkMade(t, "COPY d a", append([]api.Entry{made("a")}, below("a/")...)...)
	checkMade(t, "COPY d a/", append([]api.Entry{made("a")}, below("a/")...)...)
	checkMade(t, "COPY d/ a/b", append([]api.Entry{made("a"), made("a/b")}, below("a/b/")...)...)
	checkMade(t, "COPY d .", below("")...)
	checkMade(t, "COPY d/e .", file("g", 0600, "g"))
	checkMade(t, "MKDIR a 700\nCOPY d/e a", dir("a", 0700), file("a/g", 0600, "g"))
	checkImage(t, begun("COPY . ."), someContext(t), "", "/", someContext(t)...)
	checkImage(t, begun("COPY / d/"), []api.Entry{dir("d", 0700), file("d/d", 0, "x")}, "", "/", made("d"), dir("d/d", 0700), file("d/d/d", 0, "x"))
	checkImage(t, begun("WORKDIR w\nCOPY d/e ."), someContext(t), "", "/w", made("w"), file("w/g", 0600, "g"))
	checkImage(t, begun("COPY . a"), nil, "", "/", made("a"))
	// A Dir on a Dir has its mode, and what is in it stays; what is no Dir goes in the place of what is none.
	checkMade(t, "MKDIR a/e/x 700\nMKDIR a/e 700\nCOPY d a", made("a"), dir("a/e", 0711), file("a/e/g", 0600, "g"), dir("a/e/x", 0700), file("a/f", 0640, "f"), link("a/l", "f"))
	checkMade(t, "LINK x a/f\nCOPY f a/l\nCOPY f a/z\nCOPY d a", append(append([]api.Entry{made("a")}, below("a/")...), file("a/z", 0644, "top"))...)
	checkCant(t, api.ErrKind, "COPY f a\n¶COPY d a", "LINK x a\n¶COPY d a", "COPY f a\n¶COPY d a/b", "MKDIR a/f\n¶COPY d a", "MKDIR a/l\n¶COPY d a", "COPY f a/e\n¶COPY d a", "LINK x a/e\n¶COPY d a", "MKDIR a/e/g\n¶COPY d a", "COPY f e\n¶COPY d .")
	// Names that only begin alike are not below.
	checkImage(t, begun("COPY d a"), []api.Entry{dir("d", 0), file("d/d", 0, "1"), dir("d-", 0), file("d-/d", 0, "2"), file("dd", 0, "3")}, "", "/", made("a"), file("a/d", 0, "1"))
}

func TestP12CopyTooFar(t *testing.T) {
	context := []api.Entry{dir("d", 0), dir("d/e", 0), file("d/e/f", 0, "")}
	deep := strings.Repeat("a/", api.MaxDeep-3) + "a"
	if _, err := layers.Make(begun("COPY d "+deep), context); err != nil {
		t.Errorf("P12: as deep as may be: %v", err)
	}
	checkNoMake(t, begun("COPY d "+deep+"/a"), context, api.ErrPath, len(begun("")))
	checkNoMake(t, begun("COPY d/e/f "+deep+"/a/a/"), context, api.ErrPath, len(begun("")))
	if _, err := layers.Make(begun("COPY d/e/f "+deep+"/a/a"), context); err != nil {
		t.Errorf("P12: as deep as may be: %v", err)
	}
	// As many bytes as a path has, with what comes behind it.
	n := strings.Repeat("n", api.MaxName-4)
	long := n + "/" + n + "/" + n[:api.MaxPath-2*len(n)-2-4]
	if _, err := layers.Make(begun("COPY d "+long), context); err != nil {
		t.Errorf("P12: as long as may be: %v", err)
	}
	checkNoMake(t, begun("COPY d "+long+"n"), context, api.ErrPath, len(begun("")))
	if _, err := layers.Make(begun("COPY d/e/f "+long+"nn/"), context); err != nil {
		t.Errorf("P12: as long as may be: %v", err)
	}
	checkNoMake(t, begun("COPY d/e/f "+long+"nnn/"), context, api.ErrPath, len(begun("")))
	// What it is in is made first.
	checkNoMake(t, begun("LINK x "+n+"\nCOPY d/e/f "+long+"nnn/"), context, api.ErrKind, len(begun("LINK x "+n+"\n")))
}

func TestP12Add(t *testing.T) {
	in := func(top string) []api.Entry {
		return []api.Entry{dir(top+"p", 0700), file(top+"p/q", 0604, "in"), link(top+"r", "p"), made(top + "u"), made(top + "u/v"), file(top+"u/v/w", 0, "")}
	}
	checkMade(t, "ADD t .", in("")...)
	checkMade(t, "ADD t a/b", append([]api.Entry{made("a"), made("a/b")}, in("a/b/")...)...)
	checkMade(t, "ADD t a/", append([]api.Entry{made("a")}, in("a/")...)...)
	checkMade(t, "ADD none a", made("a"))
	checkMade(t, "ADD none /")
	checkMade(t, "MKDIR p/x 711\nMKDIR p 711\nCOPY f p/q\nLINK x r\nMKDIR u 700\nADD t .", dir("p", 0700), file("p/q", 0604, "in"), dir("p/x", 0711), link("r", "p"), dir("u", 0700), made("u/v"), file("u/v/w", 0, ""))
	checkImage(t, begun("WORKDIR w\nADD none a\nADD none /b"), someContext(t), "", "/w", made("b"), made("w"), made("w/a"))
	checkCant(t, api.ErrPath, "¶ADD ../t a", "¶ADD t ..", "¶ADD x ..", "¶ADD f ..", "¶ADD d ..", "¶ADD t "+strings.Repeat("a/", api.MaxDeep), "¶ADD t "+strings.Repeat("a/", api.MaxDeep-1))
	checkCant(t, api.ErrMissing, "¶ADD x a", "¶ADD t/x a", "COPY t x\n¶ADD x a", "COPY f a\n¶ADD x a/b")
	checkCant(t, api.ErrKind, "¶ADD d a", "¶ADD / a", "¶ADD l a", "¶ADD d/l a", "COPY f a\n¶ADD d a/b", "COPY f a\n¶ADD t a", "COPY f a\n¶ADD none a/b", "LINK x a\n¶ADD t a/b", "COPY f p\n¶ADD t .", "MKDIR p/q\n¶ADD t .", "MKDIR r\n¶ADD t .", "COPY f u\n¶ADD t .", "LINK x u/v\n¶ADD t .", "MKDIR u/v/w\n¶ADD t .")
	checkCant(t, api.ErrTar, "¶ADD f a", "¶ADD gone a", "¶ADD clear a", "COPY f a\n¶ADD f a/b", "COPY f a\n¶ADD f a")
	// A mark is wrong only when it is come to.
	checkCant(t, api.ErrKind, "COPY f a\n¶ADD gone a", "COPY f x\n¶ADD gone .", "COPY f x\n¶ADD clear .")
}

func TestP12AddBounds(t *testing.T) {
	add := begun("ADD t ")
	context := []api.Entry{file("t", 0, packed(t, put(file("x/y/z", 0, ""))))}
	deep := strings.Repeat("a/", api.MaxDeep-4) + "a"
	if _, err := layers.Make(add+deep, context); err != nil {
		t.Errorf("P12: as deep as may be: %v", err)
	}
	checkNoMake(t, add+deep+"/a", context, api.ErrPath, len(begun("")))
	// What it is in is no path, either.
	checkNoMake(t, add+deep+"/a/a", context, api.ErrPath, len(begun("")))
	checkNoMake(t, add+deep+"/a/a/a", context, api.ErrPath, len(begun("")))
	checkNoMake(t, add+"a", []api.Entry{file("t", 0, strings.Repeat("x", 512))}, api.ErrTar, len(begun("")))
	checkNoMake(t, add+"a", []api.Entry{file("t", 0, noughts(1023))}, api.ErrTar, len(begun("")))
	checkNoMake(t, add+"a", []api.Entry{file("t", 0, "")}, api.ErrTar, len(begun("")))
	// An archive that another stage has.
	checkImage(t, begun("COPY t u\nCOPY t v\nRM u\nADD t ."), context, "", "/", context0(context, "v", made("x"), made("x/y"), file("x/y/z", 0, ""))...)
}

// context0: the first entry of a context at another path, and entries behind it.
func context0(context []api.Entry, path string, behind ...api.Entry) []api.Entry {
	e := context[0]
	e.Path = path
	return append([]api.Entry{e}, behind...)
}

func TestP12Remove(t *testing.T) {
	checkMade(t, "MKDIR a/b\nMKDIR a/c\nMKDIR a-b\nRM a", made("a-b"))
	checkMade(t, "MKDIR a/b\nMKDIR a/c\nRM a/b/", made("a"), made("a/c"))
	checkMade(t, "COPY f a\nRM a\nLINK x b\nRM ./b/")
	checkImage(t, begun("WORKDIR w\nMKDIR a\nMKDIR /a\nRM a\nRM ../a"), nil, "", "/w", made("w"))
	checkImage(t, begun("WORKDIR w\nRM ."), nil, "", "/w")
	checkCant(t, api.ErrMissing, "¶RM a", "¶RM d", "MKDIR a\n¶RM a/b", "COPY f a\n¶RM a/b", "MKDIR ab\n¶RM a", "MKDIR a\nRM a\n¶RM a", "WORKDIR w\n¶RM w")
	checkCant(t, api.ErrKind, "¶RM .", "¶RM /", `¶RM ""`, "MKDIR a\n¶RM a/..", "WORKDIR w\n¶RM ..")
	checkCant(t, api.ErrPath, "¶RM ..", "¶RM a:b", "¶RM .wh.a", "WORKDIR w\n¶RM ../..")
}

func TestP12Mkdir(t *testing.T) {
	checkMade(t, "MKDIR a/b/c", made("a"), made("a/b"), made("a/b/c"))
	checkMade(t, "MKDIR a/b/c 700", made("a"), made("a/b"), dir("a/b/c", 0700))
	checkMade(t, "MKDIR a 000\nMKDIR b 777\nMKDIR c 010", dir("a", 0), dir("b", 0777), dir("c", 010))
	checkMade(t, "MKDIR a 700\nMKDIR a", dir("a", 0700))
	checkMade(t, "MKDIR a 700\nMKDIR a/b", dir("a", 0700), made("a/b"))
	checkMade(t, "MKDIR a/b 700\nMKDIR a 711", dir("a", 0711), dir("a/b", 0700))
	checkMade(t, "MKDIR /\nMKDIR .\nMKDIR \"\"")
	checkMade(t, "MKDIR a//b/./../c/", made("a"), made("a/c"))
	deep := strings.Repeat("a/", api.MaxDeep-1) + "a"
	if _, err := layers.Make(begun("MKDIR "+deep+" 700"), nil); err != nil {
		t.Errorf("P12: as deep as may be: %v", err)
	}
	checkCant(t, api.ErrPath, "¶MKDIR ..", "¶MKDIR a/.wh.b", "¶MKDIR "+deep+"/a", "¶MKDIR "+deep+"/a 700", "WORKDIR "+deep+"\n¶MKDIR a", "COPY f a\n¶MKDIR a/.wh.b")
	checkCant(t, api.ErrKind, "COPY f a\n¶MKDIR a", "LINK x a\n¶MKDIR a", "COPY f a\n¶MKDIR a/b", "COPY l a\n¶MKDIR a/b/c 700", "COPY f a\n¶MKDIR a 700", "¶MKDIR / 755", "¶MKDIR . 700", "WORKDIR w\n¶MKDIR .. 700")
}

func TestP12Link(t *testing.T) {
	checkMade(t, "LINK x a", link("a", "x"))
	checkMade(t, "LINK ../../no/where a/b/c", made("a"), made("a/b"), link("a/b/c", "../../no/where"))
	checkMade(t, "LINK x a/b/", made("a"), link("a/b", "x"))
	checkMade(t, "LINK \"!\\\"#\\$\" a\nLINK ~ b", link("a", `!"#$`), link("b", "~"))
	checkMade(t, "COPY f a\nLINK x a\nLINK y a", link("a", "y"))
	checkMade(t, "MKDIR a 700\nLINK x a/b", dir("a", 0700), link("a/b", "x"))
	checkImage(t, begun("WORKDIR w\nLINK x a"), nil, "", "/w", made("w"), link("w/a", "x"))
	long := strings.Repeat("t", api.MaxLink)
	checkMade(t, "LINK "+long+" a", link("a", long))
	checkCant(t, api.ErrPath, "¶LINK \"\" a", "¶LINK \"x y\" a", "¶LINK \\  a", "¶LINK "+long+"t a", "¶LINK x ..", "¶LINK x a:", "¶LINK \"\" .", "¶LINK \"\" ..", "MKDIR a\n¶LINK \"\" a", "COPY f a\n¶LINK \"\" a/b", "¶LINK x "+strings.Repeat("a/", api.MaxDeep)+"a")
	checkCant(t, api.ErrKind, "¶LINK x .", "¶LINK x /", "¶LINK x \"\"", "MKDIR a\n¶LINK x a", "MKDIR a\n¶LINK x a/", "COPY f a\n¶LINK x a/b", "LINK x a\n¶LINK x a/b/c", "WORKDIR w\n¶LINK x .", "WORKDIR w\n¶LINK x ..")
}

func TestP12Workdir(t *testing.T) {
	for lines, want := range map[string]string{
		"": "/", "WORKDIR a": "/a", "WORKDIR a/b": "/a/b", "WORKDIR a\nWORKDIR b": "/a/b", "WORKDIR a\nWORKDIR /b": "/b", "WORKDIR a/b\nWORKDIR ..": "/a", "WORKDIR a\nWORKDIR /": "/", "WORKDIR a\nWORKDIR ../b/": "/b", "WORKDIR .": "/", "WORKDIR a\nWORKDIR \"\"": "/a",
	} {
		if got, err := layers.Make(begun(lines), nil); err != nil || got.Work != want {
			t.Errorf("P12: %q: %v, %v; want %s", lines, got, err, want)
		}
	}
	checkImage(t, begun("WORKDIR a/b\nRM /a\nWORKDIR c"), nil, "", "/a/b/c", made("a"), made("a/b"), made("a/b/c"))
	checkImage(t, begun("MKDIR a 700\nWORKDIR a"), nil, "", "/a", dir("a", 0700))
	checkCant(t, api.ErrPath, "¶WORKDIR ..", "WORKDIR a\n¶WORKDIR ../..", "¶WORKDIR a\\ b", "¶WORKDIR "+strings.Repeat("a/", api.MaxDeep)+"a")
	checkCant(t, api.ErrKind, "COPY f a\n¶WORKDIR a", "LINK x a\n¶WORKDIR a", "COPY f a\n¶WORKDIR a/b", "WORKDIR a\nRM /a\nCOPY f /a\n¶WORKDIR b")
}

func TestP12MaxEntries(t *testing.T) {
	full := numbered(api.MaxEntries)
	checkImage(t, begun("COPY . ."), full, "", "/", full...)
	text := begun("COPY . .\n")
	for _, s := range []string{"MKDIR a", "LINK x a", "WORKDIR a", "COPY n00 a", "MKDIR a 700"} {
		checkNoMake(t, text+s, full, api.ErrBound, len(text))
	}
	checkNoMake(t, begun("COPY . a"), full, api.ErrBound, len(begun("")))
	checkImage(t, begun("COPY . a"), full[1:], "", "/", behindA(full[1:])...)
	// Only what an instruction leaves is counted, and what else is wrong goes first.
	checkNoMake(t, text+"MKDIR a\nRM a", full, api.ErrBound, len(text))
	checkImage(t, text+"RM n00\nMKDIR a", full, "", "/", append([]api.Entry{made("a")}, full[1:]...)...)
	checkImage(t, text+"MKDIR n00 755\nCOPY . .\nENV A x\nRM n00", full, "A=x", "/", full[1:]...)
	checkNoMake(t, text+"LINK x a/..", full, api.ErrKind, len(text))
	deep := slices.Concat([]api.Entry{made("a")}, full[:api.MaxEntries-2], []api.Entry{file("z", 0, "")})
	checkNoMake(t, begun("MKDIR x\nMKDIR z\nCOPY . ."), deep, api.ErrKind, len(begun("MKDIR x\nMKDIR z\n")))
	checkNoMake(t, begun("MKDIR x\nCOPY . ."), deep, api.ErrBound, len(begun("MKDIR x\n")))
	// A stage that is full may be begun with, and copied from.
	checkImage(t, "FROM scratch AS one\nCOPY . .\nFROM one\nCOPY --from=one . .", full, "", "/", full...)
}

// behindA: entries below `a`, and that.
func behindA(l []api.Entry) []api.Entry {
	out := []api.Entry{made("a")}
	for _, e := range l {
		e.Path = "a/" + e.Path
		out = append(out, e)
	}
	return out
}

func TestP1MakeNoPanic(t *testing.T) {
	numbers := []int{math.MinInt, -1, 0, 1, 2, 3, 4, 5, 6, api.MaxMode, math.MaxInt}
	for _, s := range []string{"", "/", ".", "a", "a/b", "\x00", strings.Repeat("a/", 1<<10), strings.Repeat("a", 1<<16)} {
		for _, kind := range numbers {
			for _, mode := range numbers {
				e := api.Entry{Path: s, Kind: kind, Mode: mode, Data: s}
				for _, text := range []string{begun("COPY . ."), begun("COPY a b\nADD a c\nRM b"), "FROM", ""} {
					if got, err := layers.Make(text, []api.Entry{e, e}); err == nil || !isNoImage(got) {
						t.Errorf("P1: Make(%q) with %v: %v, %v", text, e, got, err)
					}
				}
			}
		}
	}
	for _, a := range []string{"", "/", ".", "..", "//", "a", "a/b/", "\\ ", "\\\\", strings.Repeat("../", 60), strings.Repeat("a/", 90), strings.Repeat("/", 180), strings.Repeat("a", 180), "$A", "$A$A$A"} {
		for _, b := range []string{"\"\"", ".", "..", "a", "d", "t", strings.Repeat("a/", 90)} {
			for _, s := range []string{"COPY %s %s", "ADD %s %s", "LINK %s %s", "RM %s%s", "MKDIR %s%s", "WORKDIR %s%s"} {
				line := fmt.Sprintf(s, `"`+a+`"`, b)
				for _, text := range []string{begun("ENV A x\n" + line), begun("ENV A x\nCOPY . .\n" + line + "\n" + line), begun("ENV A " + strings.Repeat("../", 59) + "\n" + line)} {
					if got, err := layers.Make(text, someContext(t)); err != nil && !isNoImage(got) {
						t.Errorf("P1: Make(%q): %v beside %v", text, got, err)
					}
				}
			}
		}
	}
}

// What is handed in stays as it is, behind its end too, and what comes out is new.
func TestP2MakeNothingWritten(t *testing.T) {
	room := append(someContext(t), file("zz", 0, "spare"), api.Entry{})
	kept := slices.Clone(room)
	text := "FROM scratch AS one\nENV A path-of-a-directory\nENV B value\nWORKDIR $A\nCOPY . .\nLINK target-of-a-link k\nFROM one\nMKDIR d 711\nCOPY f d/f\nRM t\nADD t ."
	var first api.Image
	for i := range 20 {
		got, err := layers.Make(text, room[:len(room)-2])
		if err != nil {
			t.Fatal(err)
		}
		for _, s := range append(slices.Clone(got.Env), got.Work) {
			if isPieceOf(s, text) {
				t.Errorf("P2: %q that comes out is a piece of the text", s)
			}
		}
		for _, e := range got.Tree {
			if isPieceOf(e.Path, text) || isPieceOf(e.Data, text) {
				t.Errorf("P2: %v that comes out has pieces of the text", e)
			}
			for _, in := range room {
				checkShares(t, []string{in.Path, in.Data}, e.Path, e.Data)
			}
		}
		if i == 0 {
			first = api.Image{Env: slices.Clone(got.Env), Work: got.Work, Tree: slices.Clone(got.Tree)}
		}
		if !slices.Equal(got.Env, first.Env) || got.Work != first.Work || !slices.Equal(got.Tree, first.Tree) {
			t.Fatalf("P2: %v, then %v", first, got)
		}
		overwrite(got.Env, "x")
		overwrite(got.Tree, api.Entry{Path: "x", Kind: 9})
		layers.Make(begun("RM x"), room[:1])
	}
	if !slices.Equal(room, kept) {
		t.Errorf("P2: changed what was handed in: %v", room)
	}
}

func TestPlainMake(t *testing.T) {
	if i, e, at := plain.Make(begun("WORKDIR a\nENV A x"), nil); fmt.Sprint(i) != "{[A=x] /a [{a 1 493 }]}" || e != api.OK || at != -1 {
		t.Errorf("P12: %v, %d, %d", i, e, at)
	}
	if i, e, at := plain.Make(begun("RM a"), nil); !isNoImage(i) || e != api.ErrMissing || at != 13 {
		t.Errorf("P12: %v, %d, %d", i, e, at)
	}
}
