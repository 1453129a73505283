package layers_test

import (
	"fmt"
	"slices"
	"strings"
	"testing"

	"layers/api"
	"layers/layers"
	"layers/plain"
)

// at: a text without its `¶`, and where that stood.
func at(marked string) (string, int) {
	i := strings.Index(marked, "¶")
	if i < 0 {
		panic("no place in " + marked)
	}
	return strings.Replace(marked, "¶", "", 1), i
}

// begun: a text in a stage, behind its FROM.
func begun(text string) string {
	return "FROM scratch\n" + text
}

func checkParse(t *testing.T, text, want string) {
	t.Helper()
	if got, err := layers.Parse(text); err != nil || got != want {
		t.Errorf("P10: Parse(%q): %q, %v; want %q", text, got, err, want)
	}
}

// checkLines: behind a FROM, these lines have that form.
func checkLines(t *testing.T, lines, want string) {
	t.Helper()
	checkParse(t, begun(lines), begun(want))
}

// checkSyntax: behind a FROM, what stands at `¶` is ErrSyntax.
func checkSyntax(t *testing.T, lines ...string) {
	t.Helper()
	for _, s := range lines {
		checkWrong(t, begun(s), api.ErrSyntax)
	}
}

// checkWrong: what stands at `¶` is this error.
func checkWrong(t *testing.T, marked string, number api.Errno) {
	t.Helper()
	text, place := at(marked)
	checkNoParse(t, text, number, place)
}

// checkNoParse: the error of Parse, which Plan, Make and Build tell, too, whatever the context is; and nothing beside it.
func checkNoParse(t *testing.T, text string, number api.Errno, place int) {
	t.Helper()
	if got, err := layers.Parse(text); got != "" || !isAt(err, number, place) {
		t.Errorf("P10: Parse(%q): %q, %v; want error %d at %d", text, got, err, number, place)
	}
	if got, err := layers.Plan(text); got != nil || !isAt(err, number, place) {
		t.Errorf("P11: Plan(%q): %v, %v; want error %d at %d", text, got, err, number, place)
	}
	got, err := layers.Make(text, []api.Entry{{}})
	if !isNoImage(got) || !isAt(err, number, place) {
		t.Errorf("P12: Make(%q): %v, %v; want error %d at %d", text, got, err, number, place)
	}
	checkNoBuild(t, opened(t, 0), text, []api.Entry{{}}, number, place)
}

func isNoImage(i api.Image) bool {
	return i.Env == nil && i.Work == "" && i.Tree == nil
}

func TestP10Examples(t *testing.T) {
	checkParse(t, "FROM scratch \\\n AS one\n\n # no\nENV A \"x y\"\nMKDIR a$A\"$A\"'\n", "FROM scratch AS one\nENV A x\\ y\nMKDIR a${A}${A}\\'\n")
	checkWrong(t, begun("MKDIR ¶$A"), api.ErrVar)
	checkWrong(t, begun("MKDIR ¶\"a"), api.ErrSyntax)
	checkWrong(t, "FROM ¶base", api.ErrStage)
}

func TestP9Lines(t *testing.T) {
	const file = "FROM scratch\nRM a\n"
	for _, s := range []string{
		"FROM scratch\nRM a\n", "FROM scratch\nRM a", "\n\nFROM scratch\n\n\nRM a\n\n", "   \nFROM scratch\n \n  \nRM a\n  ", "  FROM   scratch  \n   RM    a   ",
		// Lines that go on: the backslash and the newline are one blank.
		"FROM\\\nscratch\nRM\\\na\n", "FROM \\\n scratch\nRM \\\n\\\n  \\\na\n", "\\\nFROM scratch\\\n\nRM a\\\n", "FROM scratch\nRM a\\\n\n", "FROM scratch\nRM a\n\\\n", "\\\n\\\n\\\nFROM scratch\n\\\n  \\\nRM a", "FROM scratch\\\n  \\\n\nRM a",
		// Comments, which do not go on.
		"#\nFROM scratch\n#x\nRM a\n#", "# x \\\nFROM scratch\n   #\\\nRM a\n # \" $ \\", "\\\n# x\nFROM scratch\n  \\\n  # y \\\nRM a", "##\nFROM scratch\nRM a\n\\\n#",
	} {
		checkParse(t, s, file)
	}
}

// A `#` begins a comment only where a line begins.
func TestP9NoComment(t *testing.T) {
	checkLines(t, "RM #", "RM \\#\n")
	checkLines(t, "RM a#b#", "RM a\\#b\\#\n")
	checkLines(t, "LINK a #\\\n", "LINK a \\#\n")
	checkLines(t, "RM \\\n#", "RM \\#\n")
	checkSyntax(t, "¶RM a #", "¶RM a \\\n# x", "¶\\# x", "¶\"#\" x", "¶\\#")
	checkWrong(t, "¶\\# x\nFROM scratch", api.ErrSyntax)
}

func TestP9Words(t *testing.T) {
	for s, want := range map[string]string{
		"a": "a", `\a`: "a", `\a\b`: "ab", `a\ b`: `a\ b`, `\ `: `\ `, `\\`: `\\`, `\"`: `\"`, `\$`: `\$`, `\$A`: `\$A`, `\#`: `\#`, `a\\b`: `a\\b`, `\\\a`: `\\a`,
		`"a b"`: `a\ b`, `"a"`: "a", `""`: `""`, `""""`: `""`, `a""`: "a", `""a`: "a", `a"b"c`: "abc", `"a""b"`: "ab", `a" "b`: `a\ b`, `"a b"c\ d`: `a\ bc\ d`,
		`"\""`: `\"`, `"\\"`: `\\`, `"\$"`: `\$`, `"\$A"`: `\$A`, `"a\\"`: `a\\`, `"\\\""`: `\\\"`, `\""a"`: `\"a`, `"'"`: `\'`, `"#"`: `\#`,
		"'": `\'`, "'a": `\'a`, "{}": `\{\}`, "A}": `A\}`, "a=b": "a=b", "`": "\\`",
	} {
		checkLines(t, "RM "+s, "RM "+want+"\n")
		checkLines(t, "LINK "+s+" "+s+"\nRM x", "LINK "+want+" "+want+"\nRM x\n")
		checkLines(t, "LINK "+s+"\\\n"+s+"\\\n", "LINK "+want+" "+want+"\n")
	}
}

// A backslash that stands for itself, or for which another one stands, makes no line go on.
func TestP9BackslashAheadOfNewline(t *testing.T) {
	checkLines(t, "RM a\\\\\nRM b", "RM a\\\\\nRM b\n")
	checkLines(t, "RM \"a\\\\\"\nRM b", "RM a\\\\\nRM b\n")
	checkLines(t, "RM a\\\\\\\n\nRM b", "RM a\\\\\nRM b\n")
	checkLines(t, "LINK a\\\\\\\nb", "LINK a\\\\ b\n")
}

func TestP9Variables(t *testing.T) {
	const env = "ENV A a\nENV AB b\nENV A_9 c\nENV ABCDEFGHIJ d\nENV A__ e\nENV Z0 f\n"
	for s, want := range map[string]string{
		"$A": "${A}", "${A}": "${A}", `"$A"`: "${A}", `"${A}"`: "${A}", "$AB": "${AB}", "${A}B": "${A}B", `$A"B"`: "${A}B", `$A\B`: "${A}B", "$A_9": "${A_9}", "$A__": "${A__}", "$Z0": "${Z0}",
		"$Aa": "${A}a", "$A-": "${A}-", "$A$A": "${A}${A}", "a$A/b${AB}c": "a${A}/b${AB}c", "$ABCDEFGHIJ": "${ABCDEFGHIJ}", "${ABCDEFGHIJ}K": "${ABCDEFGHIJ}K", "$ABCDEFGHIJk": "${ABCDEFGHIJ}k",
		"$A}": `${A}\}`, "${A}}": `${A}\}`, "{$A}": `\{${A}\}`, `"$A $A"`: `${A}\ ${A}`, `\$A$A`: `\$A${A}`, `""$A`: "${A}", `$A""`: "${A}", `"\$$A"`: `\$${A}`, "$A\\\n": "${A}", `$A\$`: `${A}\$`,
	} {
		checkLines(t, env+"RM "+s, env+"RM "+want+"\n")
	}
}

func TestP10WrongWords(t *testing.T) {
	checkSyntax(t,
		// Quotes that are not ended.
		`RM ¶"`, `RM ¶"a`, "RM ¶\"a\nRM b", "RM ¶\"a\n\"", `RM "a"¶"`, `RM "a" ¶"b`, `RM a¶"b`, `RM ¶"a\"`, `RM ¶"a\\\"`, `RM ¶"# '`, `RM \"¶"`,
		// What is wrong between such a quote and the line's end goes first.
		`RM "a¶$`, "RM \"a¶$\n", `RM "a¶$a`, `RM "a¶\n`, `RM "¶\`, "RM \"¶\\\n\"", `RM "¶$ $ \n`, `RM "¶\a$`, "RM ¶\"a\nRM $", `RM "¶${A`, `RM "¶$ABCDEFGHIJK`,
		// Backslashes.
		`RM ¶\`, `RM a¶\`, `RM a\\¶\`, `¶\`, `RM a ¶\`, "RM a\n¶\\", `RM "¶\a"`, `RM "¶\ "`, `RM "¶\#"`, `RM "\\¶\a"`, "RM \"¶\\\na\"", "RM \"a ¶\\\n", `RM "¶\{"`, `RM "¶\'"`,
		// Dollars.
		`RM ¶$`, `RM ¶$ A`, `RM ¶$a`, `RM ¶$$A`, `RM ¶$_A`, `RM ¶$9`, `RM ¶$"A"`, `RM ¶$\A`, `RM ¶${}`, `RM ¶${`, `RM ¶${A`, `RM ¶${A `, `RM ¶${Aa}`, `RM ¶${a}`, `RM ¶${ A}`, `RM ¶${A }`, `RM ¶${9}`, `RM ¶${_}`, `RM ¶${A"}"`, `RM ¶${A\}`,
		`RM ¶$ABCDEFGHIJK`, `RM ¶${ABCDEFGHIJK}`, `RM ¶$ABCDEFGHI_9a`, `RM "¶$"`, `RM "¶$a"`, `RM "¶${A"}`, "RM \"¶${A\n}\"", "RM ¶$\\\nA", "RM ¶${A\n}", "RM ¶${\\\nA}",
	)
	// The words from the left, and all of them ahead of what is wrong with the instruction.
	checkSyntax(t, `RM ¶$ "a`, `RM ¶"a $A`, `NO ¶$`, `¶$ x`, `RM a b ¶"`, `¶"RM a`, `FROM a b c d ¶$`, `COPY ¶$`, `MKDIR $A ¶$`, `ENV a ¶$`, `FROM nope AS ¶"`)
	checkWrong(t, "RM ¶$\nFROM scratch", api.ErrSyntax)
	checkWrong(t, "NO ¶\"\n", api.ErrSyntax)
}

func TestP10Bytes(t *testing.T) {
	for c := range 256 {
		s := string([]byte{byte(c)})
		if c == 10 || 32 <= c && c <= 126 {
			checkParse(t, begun("# "+s+"\n#"), begun(""))
			continue
		}
		for _, lines := range []string{"RM a¶b", "# ¶", "RM \"¶\"", "RM \\¶", "RM a\n ¶\nRM b"} {
			text, place := at(begun(lines))
			checkNoParse(t, text[:place]+s+text[place:], api.ErrSyntax, place)
		}
	}
	// They go ahead of all that is wrong with lines, wherever they stand.
	checkSyntax(t, "RM $ ¶\t", "NO \"\n# ¶\x00", "RM a¶\r\n", "# ¶\x7f \x01", "RM a ¶\x1f", "RM \"¶é\"", "RM \\¶\t")
	checkWrong(t, "¶\x00", api.ErrSyntax)
	checkWrong(t, "RM $\n¶\xff", api.ErrSyntax)
}

func TestP10MaxText(t *testing.T) {
	full := begun("#" + strings.Repeat("x", api.MaxText-len(begun("#"))))
	checkParse(t, full, begun(""))
	checkNoParse(t, full+"x", api.ErrBound, api.MaxText)
	checkNoParse(t, full+"\n", api.ErrBound, api.MaxText)
	checkNoParse(t, strings.Repeat("\x00", api.MaxText+1), api.ErrBound, api.MaxText)
	checkNoParse(t, strings.Repeat("\n", api.MaxText+1), api.ErrBound, api.MaxText)
	checkNoParse(t, strings.Repeat("\n", api.MaxText), api.ErrSyntax, api.MaxText)
	checkNoParse(t, strings.Repeat(" ", api.MaxText-1)+"\x00", api.ErrSyntax, api.MaxText-1)
}

func TestP10NoInstruction(t *testing.T) {
	for _, s := range []string{"", "\n", "  ", "# x", "# x\n", "\n\n \\\n", "\\\n# FROM scratch"} {
		checkNoParse(t, s, api.ErrSyntax, len(s))
	}
}

func TestP10FirstWord(t *testing.T) {
	for _, word := range []string{"COPY a b", "ADD a b", "RM a", "MKDIR a", "LINK a b", "ENV A b", "WORKDIR a"} {
		checkLines(t, word, word+"\n")
		checkWrong(t, "¶"+word+"\nFROM scratch", api.ErrSyntax)
		checkWrong(t, "# x\n \n  ¶"+word, api.ErrSyntax)
		checkSyntax(t, "¶"+strings.ToLower(word), "¶X"+word, "¶\\ "+word, " \\\n ¶"+word[:1]+" "+word[1:], "¶\"\"\\\n"+word)
		// Written in another way it is the same.
		checkLines(t, `\`+word, word+"\n")
		checkLines(t, `"`+word[:1]+`"`+word[1:], word+"\n")
	}
	checkSyntax(t, "¶from scratch", "¶FROMM scratch", "¶X", "¶-", "¶\"\"", "¶\"\" a", "¶RM\\ a", "¶\"RM a\"", "¶R\\\nM a", "¶RMa", "¶CMD a")
	// A word with a variable is no instruction, even if its value were one.
	for _, s := range []string{"¶$A a", "¶${A} a", "¶\"$A\" a", "¶R$A a", "¶$A"} {
		checkWrong(t, begun("ENV A RM\n"+s), api.ErrSyntax)
		checkSyntax(t, s)
	}
}

func TestP10HowManyWords(t *testing.T) {
	for word, most := range map[string][2]int{"COPY": {2, 3}, "ADD": {2, 2}, "RM": {1, 1}, "MKDIR": {1, 2}, "LINK": {2, 2}, "ENV": {2, 2}, "WORKDIR": {1, 1}} {
		for n := range 6 {
			if n < most[0] || n > most[1] {
				checkSyntax(t, "¶"+word+strings.Repeat(" 755", n), "RM x\n  ¶"+word+strings.Repeat(" \\\n755", n), "¶"+word+strings.Repeat(" --from=scratch", n))
				// Ahead of a variable that is not set.
				checkSyntax(t, "¶"+word+strings.Repeat(" $A", n))
			}
		}
	}
	checkSyntax(t, "¶FROM", "¶FROM a AS b c", "¶FROM a b c d", "¶FROM  \\\n")
	checkWrong(t, "¶FROM", api.ErrSyntax)
	checkLines(t, `COPY "" ""`, "COPY \"\" \"\"\n")
	checkLines(t, `RM ""`, "RM \"\"\n")
}

func TestP10From(t *testing.T) {
	checkParse(t, "FROM scratch AS a\nFROM a AS b\nFROM b\nFROM scratch\nFROM a AS a1b2c3d4e5", "FROM scratch AS a\nFROM a AS b\nFROM b\nFROM scratch\nFROM a AS a1b2c3d4e5\n")
	checkParse(t, `"FROM" \scratch "A"S "a"`, "FROM scratch AS a\n")
	checkParse(t, "FROM scratch AS z\nFROM z AS za09\nFROM za09\nCOPY --from=z a b", "FROM scratch AS z\nFROM z AS za09\nFROM za09\nCOPY --from=z a b\n")
	for _, s := range []string{
		"FROM scratch ¶as a", "FROM scratch ¶a AS", "FROM scratch ¶\"\"", "FROM scratch ¶as", "FROM scratch ¶$A a", "FROM scratch ¶ASS a", "¶FROM scratch AS", "FROM A ¶as A", "¶FROM A AS",
		"FROM scratch AS ¶A", "FROM scratch AS ¶\"\"", "FROM scratch AS ¶a-b", "FROM scratch AS ¶a_b", "FROM scratch AS ¶1a", "FROM scratch AS ¶a1b2c3d4e5f", "FROM scratch AS ¶$A", "FROM scratch AS ¶a$A", "FROM scratch AS ¶aB", "FROM scratch AS ¶a\\ b",
		"FROM A AS ¶A", "FROM nope AS ¶A", "FROM ¶A AS a", "FROM ¶A AS scratch", "FROM ¶A AS old", "FROM ¶\"\"", "FROM ¶Scratch", "FROM ¶1a", "FROM ¶a.b", "FROM ¶a1b2c3d4e5f", "FROM ¶$A", "FROM ¶a${A}", "FROM ¶scratch\\ ",
	} {
		checkWrong(t, "FROM scratch AS old\nENV A b\n"+s, api.ErrSyntax)
	}
	for _, s := range []string{
		"FROM ¶nope", "FROM ¶nope AS a", "FROM ¶nope AS old", "FROM ¶nope AS scratch", "FROM ¶nope AS nope", "FROM ¶a AS a", "FROM ¶a1b2c3d4e5", "FROM scratch AS ¶old", "FROM old AS ¶old", "FROM scratch AS ¶scratch", "FROM old AS ¶scratch", "FROM ¶later\nFROM scratch AS later",
	} {
		checkWrong(t, "FROM scratch AS old\nFROM scratch\n"+s, api.ErrStage)
	}
}

func TestP10MaxStages(t *testing.T) {
	five := "FROM scratch AS a\n" + strings.Repeat("FROM a\n", api.MaxStages-1)
	checkParse(t, five, five)
	checkParse(t, five+"RM a\n", five+"RM a\n")
	for _, s := range []string{"¶FROM scratch", "¶FROM a", "RM a\n  ¶FROM a AS b"} {
		checkWrong(t, five+s, api.ErrBound)
	}
	checkWrong(t, five+"FROM scratch AS ¶A", api.ErrSyntax)
	checkWrong(t, five+"FROM ¶b", api.ErrStage)
	checkWrong(t, five+"FROM a AS ¶a", api.ErrStage)
}

func TestP10MaxSteps(t *testing.T) {
	full := begun(strings.Repeat("RM a\n", api.MaxSteps-1))
	checkParse(t, full, full)
	checkParse(t, full+"# x\n\n", full)
	for _, s := range []string{"¶RM a", "# x\n\n  ¶RM a\nNO", "¶FROM scratch", "¶ENV A b", "¶COPY a b\nRM \"", "¶MKDIR a 755"} {
		checkWrong(t, full+s, api.ErrBound)
	}
	// All that may be wrong with the instruction goes first.
	checkWrong(t, full+"RM ¶$A", api.ErrVar)
	checkWrong(t, full+"RM ¶$", api.ErrSyntax)
	checkWrong(t, full+"¶NO", api.ErrSyntax)
	checkWrong(t, full+"FROM ¶nope", api.ErrStage)
	// FROMs are counted, too.
	three := "FROM scratch\nFROM scratch\nFROM scratch\n"
	checkParse(t, three+strings.Repeat("RM a\n", api.MaxSteps-3), three+strings.Repeat("RM a\n", api.MaxSteps-3))
	checkWrong(t, three+strings.Repeat("RM a\n", api.MaxSteps-3)+"¶RM a", api.ErrBound)
}

func TestP10Copy(t *testing.T) {
	const stages = "FROM scratch AS a\nFROM scratch AS b\nENV A a\n"
	for s, want := range map[string]string{
		"COPY x y": "COPY x y", "COPY --from=a x y": "COPY --from=a x y", `COPY "--from"=\a x y`: "COPY --from=a x y", "COPY --from x": "COPY --from x", "COPY -from=a x": "COPY -from=a x",
		// A word with a variable names no stage.
		"COPY --from=$A x": "COPY --from=${A} x", "COPY $A x": "COPY ${A} x", "COPY x --from=a": "COPY x --from=a", "COPY --from=a --from=a --from=a": "COPY --from=a --from=a --from=a", "ADD --from=a x": "ADD --from=a x",
	} {
		checkParse(t, stages+s, stages+want+"\n")
	}
	for _, s := range []string{
		"¶COPY --from=a x", "¶COPY --from= x", "¶COPY --from=nope $B", "¶COPY x y z", "¶COPY $B y z", "¶COPY --from=$A x y", "¶COPY --from$A x y", "¶COPY --from x y", "¶COPY x --from=a y", "¶COPY \"\" x y", "¶COPY --FROM=a x y", "¶COPY -\\ -from=a x y",
		"COPY ¶--from= x y", "COPY ¶--from=A x y", "COPY ¶--from=a-b x y", "COPY ¶--from=1 x y", "COPY ¶--from=a1b2c3d4e5f x y", "COPY ¶--from=a\\  x y", "COPY ¶--from=--from=a x y", "COPY ¶\"--from=\" $B y",
	} {
		checkWrong(t, stages+s, api.ErrSyntax)
	}
	for _, s := range []string{"COPY ¶--from=b x y", "COPY ¶--from=nope x y", "COPY ¶--from=scratch x y", "COPY ¶--from=nope $B y", "COPY ¶--from=c x y\nFROM scratch AS c", "FROM scratch\nCOPY --from=b x y\nFROM scratch AS c\nCOPY ¶--from=c x y"} {
		checkWrong(t, stages+s, api.ErrStage)
	}
	checkParse(t, stages+"FROM a\nCOPY --from=b x y", stages+"FROM a\nCOPY --from=b x y\n")
}

func TestP10ModesAndNames(t *testing.T) {
	for _, s := range []string{"000", "777", "755", "012"} {
		checkLines(t, "MKDIR a "+s, "MKDIR a "+s+"\n")
	}
	checkLines(t, `MKDIR a "7"\5"5"`, "MKDIR a 755\n")
	for _, s := range []string{"7", "75", "0755", "788", "78a", "abc", `""`, "7.5", "-75", "+75", "$A", "75$A", `\ 75`} {
		checkWrong(t, begun("ENV A 5\nMKDIR a ¶"+s), api.ErrSyntax)
		checkSyntax(t, "MKDIR $B ¶"+s)
	}
	for _, s := range []string{"A", "Z", "AB_9", "A_", "ABCDEFGHIJ"} {
		checkLines(t, "ENV "+s+" x\nRM $"+s, "ENV "+s+" x\nRM ${"+s+"}\n")
	}
	checkLines(t, `ENV "A"\B x`, "ENV AB x\n")
	for _, s := range []string{"a", "Aa", "_A", "9", `""`, "A-B", "A\\ B", "ABCDEFGHIJK", "$A", "A$A", "\\$A", "A=b"} {
		checkWrong(t, begun("ENV A B\nENV ¶"+s+" x"), api.ErrSyntax)
		checkSyntax(t, "ENV ¶"+s+" $B")
	}
}

func TestP10Variables(t *testing.T) {
	for _, s := range []string{
		"RM ¶$A", "RM a¶${A}b", `RM "x ¶$A"`, "ENV A ¶$A", "ENV A x\nRM ¶$AB", "ENV AB x\nRM ¶$A", "ENV A x\nRM $A¶$B$C", "ENV A x\nLINK $A \\\n $A¶$B", "LINK ¶$A $B", "COPY a ¶$A", "ADD ¶$A b", "MKDIR ¶$A 755", "WORKDIR ¶$A", "RM ¶$A\nENV A x", "ENV B x\nENV A $B¶$A",
		// What is set in a stage is not in the next one, if that does not begin with it.
		"ENV A x\nFROM scratch\nRM ¶$A", "FROM scratch AS a\nENV A x\nFROM scratch AS b\nFROM b\nRM ¶$A", "FROM scratch AS a\nFROM a AS b\nENV A x\nFROM a\nRM ¶$A",
		// A stage that is copied from sets nothing.
		"FROM scratch AS a\nENV A x\nFROM scratch\nCOPY --from=a x y\nRM ¶$A",
	} {
		checkWrong(t, begun(s), api.ErrVar)
	}
	for _, s := range []string{
		"ENV A x\nRM ${A}\n", "ENV A \"\"\nENV A ${A}\nLINK ${A} ${A}\n", "FROM scratch AS a\nENV A x\nFROM a\nRM ${A}\n", "FROM scratch AS a\nENV A x\nFROM a AS b\nENV B x\nFROM b\nRM ${A}${B}\n",
		"FROM scratch AS a\nENV A x\nFROM scratch AS b\nFROM a\nRM ${A}\n", "FROM scratch AS a\nRM x\nENV A x\nFROM a\nENV A ${A}\nCOPY --from=a ${A} ${A}\n",
	} {
		checkLines(t, s, s)
	}
}

// Of two lines the first goes first, whatever is wrong with the second.
func TestP10LinesInOrder(t *testing.T) {
	checkWrong(t, begun("RM ¶$A\nRM \"\n"), api.ErrVar)
	checkWrong(t, begun("¶NO\nRM $\n"), api.ErrSyntax)
	checkWrong(t, "FROM ¶nope\nRM \"", api.ErrStage)
	checkWrong(t, begun("RM a\nCOPY ¶--from=x a b\nFROM A\n"), api.ErrStage)
}

func TestP10Form(t *testing.T) {
	const same = "abcdefghijklmnopqrstuvwxyzABCDEFGHIJKLMNOPQRSTUVWXYZ0123456789./_=:-"
	for c := 32; c <= 126; c++ {
		s := string(rune(c))
		want := `\` + s
		if strings.Contains(same, s) {
			want = s
		}
		checkLines(t, `RM \`+s, "RM "+want+"\n")
		checkLines(t, `RM x\`+s+"y", "RM x"+want+"y\n")
	}
	// It may be longer than a build file.
	text := begun("RM \"" + strings.Repeat("!", 1000) + "\"\n")
	form := begun("RM " + strings.Repeat("\\!", 1000) + "\n")
	checkParse(t, text, form)
	checkNoParse(t, form, api.ErrBound, api.MaxText)
}

func checkPlan(t *testing.T, text string, want ...int) {
	t.Helper()
	if got, err := layers.Plan(text); err != nil || !slices.Equal(got, want) {
		t.Errorf("P11: Plan(%q): %v, %v; want %v", text, got, err, want)
	}
}

func TestP11(t *testing.T) {
	checkPlan(t, "FROM scratch", 0)
	checkPlan(t, "FROM scratch\nFROM scratch\nFROM scratch", 2)
	checkPlan(t, "FROM scratch AS a\nFROM a AS b\nFROM b", 0, 1, 2)
	checkPlan(t, "FROM scratch AS a\nFROM scratch AS b\nFROM a", 0, 2)
	checkPlan(t, "FROM scratch AS a\nFROM scratch AS b\nFROM b", 1, 2)
	checkPlan(t, "FROM scratch AS a\nFROM scratch AS b\nFROM scratch\nCOPY --from=a x y", 0, 2)
	checkPlan(t, "FROM scratch AS a\nFROM scratch AS b\nFROM b\nRM x\nCOPY --from=a x y\nCOPY --from=b x y", 0, 1, 2)
	checkPlan(t, "FROM scratch AS a\nFROM scratch AS b\nCOPY --from=a x y\nFROM scratch AS c\nFROM b AS d\nFROM scratch\nCOPY --from=d x y", 0, 1, 3, 4)
	// What a stage needs which is not needed itself is not.
	checkPlan(t, "FROM scratch AS a\nFROM a AS b\nCOPY --from=a x y\nFROM scratch", 2)
	// The context is no stage, and a stage is not needed by what is written like its name.
	checkPlan(t, "FROM scratch AS a\nENV A a\nFROM scratch AS b\nENV A a\nCOPY a b\nCOPY --from=$A x\nADD --from=a x\nRM a", 1)
}

func TestP1ParseNoPanic(t *testing.T) {
	for _, s := range []string{"", "\\", "\"", "$", "${", "FROM", "FROM scratch\nCOPY", "\xff", strings.Repeat("\\", api.MaxText), strings.Repeat("$", 1<<16), strings.Repeat("FROM scratch\n", 100), strings.Repeat("\"", api.MaxText), strings.Repeat("FROM ", 300), strings.Repeat("a", 1<<24)} {
		for i := range min(len(s), 40) + 1 {
			text := s[:len(s)-i]
			checkZeroBesideWrong(t, text)
			checkZeroBesideWrong(t, begun(text))
		}
	}
}

func checkZeroBesideWrong(t *testing.T, text string) {
	t.Helper()
	form, err := layers.Parse(text)
	plan, err2 := layers.Plan(text)
	image, err3 := layers.Make(text, nil)
	if err != nil && form != "" || err2 != nil && plan != nil || err3 != nil && !isNoImage(image) {
		t.Errorf("P1: of %.40q: %q, %v, %v beside %v, %v, %v", text, form, plan, image, err, err2, err3)
	}
	if (err == nil) != (err2 == nil) {
		t.Errorf("P11: of %.40q: %v, but %v", text, err, err2)
	}
}

// What comes out is new, and the same whatever was asked between.
func TestP2Parse(t *testing.T) {
	text := begun("ENV A x\nFROM scratch AS a\nENV A y\nFROM a\nRM $A\n")
	for range 50 {
		checkParse(t, text, begun("ENV A x\nFROM scratch AS a\nENV A y\nFROM a\nRM ${A}\n"))
		got, err := layers.Plan(text)
		if err != nil || fmt.Sprint(got) != "[1 2]" {
			t.Fatalf("P11: %v, %v", got, err)
		}
		overwrite(got, 9)
		checkWrong(t, begun("RM ¶$A"), api.ErrVar)
		checkWrong(t, "FROM ¶a", api.ErrStage)
	}
	form, err := layers.Parse(begun("RM abc\n"))
	if same := begun("RM abc\n"); err != nil || form != same || isPieceOf(form, same) {
		t.Errorf("P2: %q, %v", form, err)
	}
}

func TestPlainParse(t *testing.T) {
	if s, e, at := plain.Parse("FROM  scratch"); s != "FROM scratch\n" || e != api.OK || at != -1 {
		t.Errorf("P10: %q, %d, %d", s, e, at)
	}
	if s, e, at := plain.Parse("FROM nope"); s != "" || e != api.ErrStage || at != 5 {
		t.Errorf("P10: %q, %d, %d", s, e, at)
	}
	if l, e, at := plain.Plan("FROM scratch"); !slices.Equal(l, []int{0}) || e != api.OK || at != -1 {
		t.Errorf("P11: %v, %d, %d", l, e, at)
	}
	if l, e, at := plain.Plan("FROM"); l != nil || e != api.ErrSyntax || at != 0 {
		t.Errorf("P11: %v, %d, %d", l, e, at)
	}
}
