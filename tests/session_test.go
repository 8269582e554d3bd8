package tests

import (
	"fmt"
	"regexp"
	"slices"
	"strings"
	"sync"
	"testing"

	"loop.example/sismem/impl"
)

// lined is lines, each with its newline.
func lined(lines ...string) string {
	var b strings.Builder
	for _, line := range lines {
		b.WriteString(line + "\n")
	}
	return b.String()
}

func wantSession(t *testing.T, name, text, want string) {
	t.Helper()
	if got := impl.MemSession(text); got != want {
		t.Errorf("%s: MemSession(%q) is\n%q, asked is\n%q", name, text, got, want)
	}
}

// pair is a line, and its answer.
type pair struct{ line, seen string }

// cutPairs are the lines, and the answers, of pairs.
func cutPairs(pairs ...pair) (lines, seen []string) {
	for _, p := range pairs {
		lines, seen = append(lines, p.line), append(seen, p.seen)
	}
	return lines, seen
}

func wantPairs(t *testing.T, name string, pairs ...pair) {
	t.Helper()
	lines, seen := cutPairs(pairs...)
	wantSession(t, name, lined(lines...), lined(seen...))
}

// example is the one of the document.
func example() []pair {
	return []pair{
		{"data 0 apple", "apple"}, {"cell 1 0 0", "cell of 2"}, {"weak 2 0 9", "weak"}, {"guardian 3", "guardian"},
		{"watch 3 1", "ok"}, {"size", "4 of 4"}, {"collect", "ok"}, {"forget 0", "ok"},
		{"take 4 2 0", "apple"}, {"forget 4", "ok"}, {"forget 1", "ok"}, {"data 5 pear", "pear"},
		{"collect", "ok"}, {"size", "5 of 5"}, {"ask 6 3", "cell of 2"}, {"take 7 6 1", "apple"},
		{"ask 0 3", "none"}, {"take 4 2 0", "apple"}, {"forget 6", "ok"}, {"forget 7", "ok"},
		{"forget 4", "ok"}, {"collect", "ok"}, {"take 4 2 0", "none"}, {"size", "3 of 3"},
		{"set 2 1 5", "ok"}, {"take 4 2 1", "pear"}, {"watch 5 4", "no"}, {"cell 1 1 2 3 4 5 6 7", "no"},
	}
}

func TestSessionOfTheExample(t *testing.T) {
	whole := example()
	for many := range len(whole) + 1 {
		wantPairs(t, fmt.Sprintf("the first %d lines", many), whole[:many]...)
	}
}

// prelude leaves data at 0, a cell of 3 at 1, a weak pair at 2, a guardian at 3 that was told of b, other data at 5, and nothing at 4, 6 and 7.
func prelude() []pair {
	return []pair{
		{"data 0 a", "a"}, {"cell 1 0 0 0", "cell of 3"}, {"weak 2 0 1", "weak"}, {"guardian 3", "guardian"},
		{"data 4 b", "b"}, {"watch 3 4", "ok"}, {"forget 4", "ok"}, {"collect", "ok"}, {"data 5 c", "c"},
	}
}

// all tells each thing that the prelude leaves, so that nothing can have changed unseen.
func all() []pair {
	return []pair{
		{"size", "6 of 6"}, {"take 4 1 0", "a"}, {"take 4 1 1", "a"}, {"take 4 1 2", "a"}, {"take 4 1 3", "no"},
		{"take 4 2 0", "a"}, {"take 4 2 1", "cell of 3"}, {"ask 4 3", "b"}, {"ask 4 3", "none"},
		{"cell 4 0 1 2 3 5 6", "cell of 6"}, {"take 6 4 0", "a"}, {"take 6 4 1", "cell of 3"}, {"take 6 4 2", "weak"},
		{"take 6 4 3", "guardian"}, {"take 6 4 4", "c"}, {"take 6 4 5", "none"}, {"forget 4", "ok"}, {"collect", "ok"}, {"size", "5 of 5"},
	}
}

// wantBehind asks for answers behind the prelude.
func wantBehind(t *testing.T, name string, pairs ...pair) {
	t.Helper()
	wantPairs(t, name, slices.Concat(prelude(), pairs)...)
}

// wantUnchanged asks that a line is answered so, and changes nothing.
func wantUnchanged(t *testing.T, name, line, seen string) {
	t.Helper()
	wantBehind(t, name, slices.Concat([]pair{{line, seen}}, all())...)
}

func TestPreludeIsMadeAsSaid(t *testing.T) {
	wantBehind(t, "the prelude", all()...)
}

// forms are a line of each kind that happens behind the prelude, with the words that it must have.
func forms() []pair {
	return []pair{
		{"data 7 d", "d"}, {"weak 7 0 1", "weak"}, {"guardian 7", "guardian"}, {"take 7 1 0", "a"}, {"set 1 0 5", "ok"},
		{"forget 0", "ok"}, {"watch 3 0", "ok"}, {"ask 7 3", "b"}, {"collect", "ok"}, {"size", "6 of 6"},
	}
}

func TestSessionByTheNumberOfWords(t *testing.T) {
	for _, form := range forms() {
		wantBehind(t, "just as many words", form)
		words := strings.Split(form.line, " ")
		for less := 1; less < len(words); less++ {
			wantUnchanged(t, "fewer words", strings.Join(words[:less], " "), "bad")
		}
		for _, more := range []string{" 0", " 0 0", " x", " ", "  ", " " + form.line} {
			wantUnchanged(t, "more words", form.line+more, "bad")
		}
	}
}

func TestSessionOfCells(t *testing.T) {
	wantUnchanged(t, "no place", "cell", "bad")
	wantBehind(t, "none", pair{"cell 7", "cell of 0"}, pair{"take 6 7 0", "no"}, pair{"size", "7 of 7"})
	wantBehind(t, "one", pair{"cell 7 5", "cell of 1"}, pair{"take 6 7 0", "c"}, pair{"take 6 7 1", "no"})
	wantBehind(t, "itself is what was known there", pair{"cell 0 0 0", "cell of 2"}, pair{"take 6 0 1", "a"})
	wantBehind(t, "six", pair{"cell 7 0 1 2 3 4 5", "cell of 6"}, pair{"take 6 7 5", "c"}, pair{"take 6 7 4", "none"}, pair{"take 6 7 3", "guardian"})
	wantUnchanged(t, "seven", "cell 7 0 1 2 3 4 5 6", "no")
	wantUnchanged(t, "seven of nothing", "cell 7 9 9 9 9 9 9 9", "no")
	wantUnchanged(t, "seven that are no figures", "cell 7 x x x x x x x", "no")
	wantUnchanged(t, "a thousand", "cell 7"+strings.Repeat(" 0", 1000), "no")
	wantUnchanged(t, "six at no place", "cell 8 0 1 2 3 4 5", "no")
	for many := range impl.MemMaxRefs + 1 {
		wantBehind(t, "some", pair{"cell 7" + strings.Repeat(" 1", many), fmt.Sprintf("cell of %d", many)})
	}
}

// noFigures are words that are read as -1, and, at the end, figures that are no place of eight Roots.
func noFigures() []string {
	return []string{
		"10", "00", "01", "77", "123456789", "a", "x", "D", "-1", "+1", "-0", "-", ".", "0.", "0x0", "1e0", "", "\t", "\r", "\x00", "0\r", "0\t", "\t0",
		"/", ":", "\xff", "\xb2", "0\xff", "\u0663", "\uff10", "\u00b2", "99999999999999999999", "8", "9",
	}
}

// slot is a line with a D left out: what is answered with a figure, and, with no figure, what follows then.
type slot struct {
	form, figure, seen string
	none               []pair
}

// slots are one for each D of the table; of those without lines to follow nothing changes.
func slots() []slot {
	return []slot{
		{"data %s d", "7", "d", []pair{{"", "no"}}},
		{"cell %s", "7", "cell of 0", []pair{{"", "no"}}},
		{"cell %s 0 1", "7", "cell of 2", []pair{{"", "no"}}},
		{"cell 7 %s", "0", "cell of 1", []pair{{"", "cell of 1"}, {"take 6 7 0", "none"}}},
		{"cell 7 5 %s 0", "0", "cell of 3", []pair{{"", "cell of 3"}, {"take 6 7 0", "c"}, {"take 6 7 1", "none"}, {"take 6 7 2", "a"}}},
		{"weak %s 0 1", "7", "weak", []pair{{"", "no"}}},
		{"weak 7 %s 5", "0", "weak", []pair{{"", "weak"}, {"take 6 7 0", "none"}, {"take 6 7 1", "c"}}},
		{"weak 7 5 %s", "0", "weak", []pair{{"", "weak"}, {"take 6 7 0", "c"}, {"take 6 7 1", "none"}}},
		{"guardian %s", "7", "guardian", []pair{{"", "no"}}},
		{"take %s 1 0", "7", "a", []pair{{"", "no"}}},
		{"take 7 %s 0", "1", "a", []pair{{"", "no"}}},
		{"take 7 1 %s", "0", "a", []pair{{"", "no"}}},
		{"set %s 0 5", "1", "ok", []pair{{"", "no"}}},
		{"set 1 %s 5", "0", "ok", []pair{{"", "no"}}},
		{"set 1 1 %s", "5", "ok", []pair{{"", "ok"}, {"take 6 1 0", "a"}, {"take 6 1 1", "none"}, {"take 6 1 2", "a"}}},
		{"forget %s", "7", "ok", []pair{{"", "no"}}},
		{"watch %s 0", "3", "ok", []pair{{"", "no"}}},
		{"watch 3 %s", "0", "ok", []pair{{"", "no"}}},
		{"ask %s 3", "7", "b", []pair{{"", "no"}}},
		{"ask 7 %s", "3", "b", []pair{{"", "no"}}},
	}
}

func TestSessionOfWordsThatAreNoFigures(t *testing.T) {
	for _, s := range slots() {
		wantBehind(t, "a figure", pair{fmt.Sprintf(s.form, s.figure), s.seen})
		for _, word := range noFigures() {
			line := fmt.Sprintf(s.form, word)
			if len(s.none) == 1 {
				wantUnchanged(t, "no figure", line, s.none[0].seen)
				continue
			}
			wantBehind(t, "no figure", slices.Concat([]pair{{line, s.none[0].seen}}, s.none[1:])...)
		}
	}
}

func TestSessionOfEachFigure(t *testing.T) {
	var pairs []pair
	for root := range 8 {
		text := fmt.Sprintf("t%d", root)
		pairs = append(pairs, pair{fmt.Sprintf("data %d %s", root, text), text})
	}
	for root := range 8 {
		pairs = append(pairs, pair{fmt.Sprintf("cell 0 %d", root), "cell of 1"}, pair{"take 0 0 0", fmt.Sprintf("t%d", root)})
	}
	pairs = append(pairs, pair{"data 8 t", "no"}, pair{"data 9 t", "no"})
	wantPairs(t, "eight Roots", pairs...)
}

// The order of words is another than that of MemTakes: To, At, From.
func TestSessionSetsToAtFrom(t *testing.T) {
	wantPairs(t, "set",
		pair{"data 2 c", "c"}, pair{"cell 0 7 7 7", "cell of 3"}, pair{"set 0 1 2", "ok"},
		pair{"take 5 0 0", "none"}, pair{"take 5 0 1", "c"}, pair{"take 5 0 2", "none"}, pair{"set 0 2 1", "ok"}, pair{"take 5 0 2", "none"}, pair{"set 2 0 1", "no"})
	wantPairs(t, "take",
		pair{"data 2 c", "c"}, pair{"cell 1 7 2", "cell of 2"}, pair{"take 0 1 1", "c"}, pair{"take 1 0 1", "no"}, pair{"take 3 1 0", "none"})
	wantPairs(t, "watch and ask",
		pair{"guardian 0", "guardian"}, pair{"data 1 c", "c"}, pair{"watch 1 0", "no"}, pair{"watch 0 1", "ok"}, pair{"forget 1", "ok"}, pair{"collect", "ok"},
		pair{"ask 0 1", "no"}, pair{"ask 1 0", "c"}, pair{"ask 1 0", "none"})
}

func TestSessionOfTexts(t *testing.T) {
	for _, text := range []string{"a", "z", "0", "9", "abcdefghij09", "data", "size", "no", "bad", "none", "007"} {
		wantPairs(t, "a text", pair{"data 0 " + text, text}, pair{"cell 1 0", "cell of 1"}, pair{"take 2 1 0", text}, pair{"size", "2 of 2"})
	}
	for _, text := range []string{"", "abcdefghij090", "A", "a-b", "a\r", "a\t", "\xff", "\xc3\xa9", "a\x00", "`", "{", "/", ":", "-1"} {
		wantUnchanged(t, "no text", "data 7 "+text, "no")
		wantUnchanged(t, "no text, no place", "data 8 "+text, "no")
	}
}

func TestSessionOfSpaces(t *testing.T) {
	for _, line := range []string{
		"", " ", "  ", "   ", " size", "size ", "size  ", "  size", " collect", "collect ", " data 7 d", "data 7 d ", "data  7 d", "data 7  d", "data   ",
		"guardian  ", "guardian  7", " guardian 7", "guardian 7 ", "take 7  1 0", "take  7 1 0", "take 7 1  0", "take 7 1 0 ", "set  1 0 5", "forget  0", "forget 0 ",
		"watch  3 0", "watch 3  0", "ask 7  3", "ask 7 3 ", "weak  7 0 1", "weak 7 0 1 ", " cell 7",
	} {
		wantUnchanged(t, "spaces", line, "bad")
	}
	for _, line := range []string{
		"data  d", "data 7 ", "data  ", "guardian ", "take 7 1 ", "take 7  0", "take  1 0", "take   ", "set  0 5", "set 1  5", "forget ", "watch 3 ", "watch  0", "watch  ",
		"ask 7 ", "ask  3", "weak  0 1", "cell ", "cell  7", "cell  ",
	} {
		wantUnchanged(t, "nothing between spaces where a D or a text stands", line, "no")
	}
	wantBehind(t, "a space at the end of a cell", pair{"cell 7 ", "cell of 1"}, pair{"take 6 7 0", "none"})
	wantBehind(t, "two spaces at the end of a cell", pair{"cell 7  ", "cell of 2"})
	wantBehind(t, "two spaces in a cell", pair{"cell 7 0  1", "cell of 3"}, pair{"take 6 7 0", "a"}, pair{"take 6 7 1", "none"}, pair{"take 6 7 2", "cell of 3"})
	wantBehind(t, "six spaces", pair{"cell 7      ", "cell of 6"})
	wantUnchanged(t, "seven spaces", "cell 7       ", "no")
	wantBehind(t, "a weak pair of nothing", pair{"weak 7  ", "weak"}, pair{"take 6 7 0", "none"}, pair{"take 6 7 1", "none"})
	wantBehind(t, "a space at the end of set", pair{"set 1 0 ", "ok"}, pair{"take 6 1 0", "none"})
}

func TestSessionOfOtherBytes(t *testing.T) {
	for _, line := range []string{
		"size\r", "\rsize", "collect\r", "size\t", "\tsize", "data\t7\td", "data\t7 d", "guardian\t7", "size\v", "size\x00", "\x00", "\x00size", "si\x00ze",
		"size\u00a0", "\u00a0size", "guardian\u00a07", "\xffsize", "\xff", "\xef\xbb\xbfsize", "s\u0131ze", "\u2028", "size\u2028", "size;", "#", "\\n", "size\\nsize",
	} {
		wantUnchanged(t, "other bytes", line, "bad")
	}
	for _, line := range []string{"data 7 d\r", "data 7\r d", "forget 0\r", "guardian 7\r", "take 7 1 0\r", "ask 7 3\r", "watch 3 0\t", "data 7 a\tb", "data 7 \u00e9", "guardian \xb9"} {
		wantUnchanged(t, "other bytes in words", line, "no")
	}
	wantSession(t, "lines that end with a carriage return too", "data 0 a\r\nsize\r\nsize", "no\nbad\n0 of 0\n")
	for b := range 256 {
		char := string([]byte{byte(b)})
		if char == "\n" || char == " " {
			continue
		}
		wantUnchanged(t, "one byte", char, "bad")
		wantUnchanged(t, "one byte behind", "size"+char, "bad")
		wantUnchanged(t, "one byte ahead", char+"guardian 7", "bad")
		wantUnchanged(t, "one byte for a space", "guardian"+char+"7", "bad")
		if b < '0' || b > '7' {
			wantUnchanged(t, "one byte for a place", "guardian "+char, "no")
		}
	}
}

func TestSessionOfWordsLikeCommands(t *testing.T) {
	for _, form := range append(forms(), pair{"cell 7 0", "cell of 1"}) {
		name, rest, _ := strings.Cut(form.line, " ")
		if rest != "" {
			rest = " " + rest
		}
		for _, other := range []string{name + "s", name + name, name[:len(name)-1], name[1:], strings.ToUpper(name), strings.ToUpper(name[:1]) + name[1:], name + "0", "x" + name, name + "-", name[:1], ""} {
			wantUnchanged(t, "like a command", other+rest, "bad")
		}
	}
	for _, line := range []string{"ok", "no", "bad", "full", "none", "too long", "guard 7", "makes 7", "collects", "forgets 0", "7", "0 data a", "7 guardian", "1 of 1"} {
		wantUnchanged(t, "no command", line, "bad")
	}
}

func TestSessionOfNewlines(t *testing.T) {
	wantSession(t, "an empty text", "", "")
	wantSession(t, "a newline", "\n", "bad\n")
	wantSession(t, "two newlines", "\n\n", "bad\nbad\n")
	wantSession(t, "a line without a newline", "size", "0 of 0\n")
	wantSession(t, "a line with a newline", "size\n", "0 of 0\n")
	wantSession(t, "a line and an empty one", "size\n\n", "0 of 0\nbad\n")
	wantSession(t, "an empty line ahead", "\nsize", "bad\n0 of 0\n")
	wantSession(t, "an empty line between", "guardian 0\n\nsize\n", "guardian\nbad\n1 of 1\n")
	wantSession(t, "a space behind the last newline", "size\n ", "0 of 0\nbad\n")
	wantSession(t, "two lines, the last without a newline", "guardian 0\nsize", "guardian\n1 of 1\n")
	wantSession(t, "the given ones", "size\ncell x\ntake 0 1 0\n\ncell 9\n", "0 of 0\nno\nno\nbad\nno\n")
}

func TestSessionOfSizes(t *testing.T) {
	wantPairs(t, "what cannot be come to is of Objs until it is collected",
		pair{"size", "0 of 0"}, pair{"collect", "ok"}, pair{"size", "0 of 0"},
		pair{"data 0 a", "a"}, pair{"size", "1 of 1"}, pair{"data 0 b", "b"}, pair{"size", "1 of 2"}, pair{"data 1 c", "c"}, pair{"size", "2 of 3"},
		pair{"forget 0", "ok"}, pair{"size", "1 of 3"}, pair{"collect", "ok"}, pair{"size", "1 of 1"}, pair{"collect", "ok"}, pair{"size", "1 of 1"},
		pair{"forget 1", "ok"}, pair{"size", "0 of 1"}, pair{"collect", "ok"}, pair{"size", "0 of 0"})
	wantPairs(t, "a circle",
		pair{"cell 0 7", "cell of 1"}, pair{"cell 1 0", "cell of 1"}, pair{"set 0 0 1", "ok"}, pair{"forget 0", "ok"}, pair{"size", "2 of 2"},
		pair{"forget 1", "ok"}, pair{"size", "0 of 2"}, pair{"size", "0 of 2"}, pair{"collect", "ok"}, pair{"size", "0 of 0"})
	wantPairs(t, "the first of a weak pair",
		pair{"data 0 a", "a"}, pair{"weak 1 0 0", "weak"}, pair{"set 1 1 7", "ok"}, pair{"size", "2 of 2"}, pair{"forget 0", "ok"}, pair{"size", "1 of 2"},
		pair{"take 0 1 0", "a"}, pair{"size", "2 of 2"}, pair{"forget 0", "ok"}, pair{"collect", "ok"}, pair{"size", "1 of 1"}, pair{"take 0 1 0", "none"})
	wantPairs(t, "what is watched, told and asked",
		pair{"guardian 0", "guardian"}, pair{"data 1 a", "a"}, pair{"watch 0 1", "ok"}, pair{"forget 1", "ok"}, pair{"size", "1 of 2"},
		pair{"collect", "ok"}, pair{"size", "2 of 2"}, pair{"ask 1 0", "a"}, pair{"forget 1", "ok"}, pair{"size", "1 of 2"}, pair{"collect", "ok"}, pair{"size", "1 of 1"})
}

func TestSessionUntilFull(t *testing.T) {
	var pairs []pair
	for range impl.MemMaxObjs {
		pairs = append(pairs, pair{"cell 0 0", "cell of 1"})
	}
	pairs = append(pairs, pair{"size", "60 of 60"}, pair{"cell 0 0", "full"}, pair{"guardian 1", "full"}, pair{"data 1 A", "no"}, pair{"data 8 a", "no"}, pair{"cell 1 0 0 0 0 0 0 0", "no"},
		pair{"collect", "ok"}, pair{"weak 1 0 0", "full"}, pair{"take 0 0 0", "cell of 1"}, pair{"size", "59 of 60"}, pair{"data 1 a", "full"}, pair{"collect", "ok"}, pair{"data 1 a", "a"}, pair{"size", "60 of 60"})
	wantPairs(t, "60 objects", pairs...)
	pairs = []pair{{"guardian 0", "guardian"}, {"data 1 a", "a"}}
	for range impl.MemMaxWatch {
		pairs = append(pairs, pair{"watch 0 1", "ok"})
	}
	pairs = append(pairs, pair{"watch 0 1", "full"}, pair{"watch 1 0", "no"}, pair{"watch 0 2", "no"}, pair{"forget 1", "ok"}, pair{"collect", "ok"}, pair{"watch 0 0", "full"})
	for range impl.MemMaxWatch {
		pairs = append(pairs, pair{"ask 1 0", "a"})
	}
	wantPairs(t, "20 that are watched", append(pairs, pair{"ask 1 0", "none"}, pair{"watch 0 0", "ok"}, pair{"size", "1 of 2"})...)
}

const tooLong = "too long\n"

func TestSessionByTheNumberOfLines(t *testing.T) {
	for _, line := range []string{"", "size", "x", " ", "guardian 9"} {
		seen := map[string]string{"size": "0 of 0\n", "guardian 9": "no\n"}[line]
		if seen == "" {
			seen = "bad\n"
		}
		all := strings.Repeat(line+"\n", impl.MemMaxLines)
		wantSession(t, "200 lines", all, strings.Repeat(seen, impl.MemMaxLines))
		wantSession(t, "201 lines", all+line+"\n", tooLong)
		wantSession(t, "200 lines and a piece", all+"size", tooLong)
		wantSession(t, "200 lines and a space", all+" ", tooLong)
		wantSession(t, "200 lines and an empty one", all+"\n", tooLong)
		without := strings.TrimSuffix(all, "\n")
		if line != "" {
			wantSession(t, "200 lines, without a newline", without, strings.Repeat(seen, impl.MemMaxLines))
			wantSession(t, "201 lines, without a newline", all+line, tooLong)
		} else {
			wantSession(t, "199 lines", without, strings.Repeat(seen, impl.MemMaxLines-1))
		}
	}
	wantSession(t, "6000 empty lines", strings.Repeat("\n", impl.MemMaxSession), tooLong)
}

func TestSessionByTheNumberOfBytes(t *testing.T) {
	fill := func(size int) string { return strings.Repeat("x", size) }
	wantSession(t, "6000 in one line", fill(impl.MemMaxSession), "bad\n")
	wantSession(t, "6001 in one line", fill(impl.MemMaxSession+1), tooLong)
	wantSession(t, "6000 with a newline", fill(impl.MemMaxSession-1)+"\n", "bad\n")
	wantSession(t, "6001 with a newline", fill(impl.MemMaxSession)+"\n", tooLong)
	wantSession(t, "6000, a line behind", fill(impl.MemMaxSession-5)+"\nsize", "bad\n0 of 0\n")
	wantSession(t, "6001, a line behind", fill(impl.MemMaxSession-5)+"\nsize\n", tooLong)
	wantSession(t, "bytes, not characters", strings.Repeat("\u00e9", impl.MemMaxSession/2), "bad\n")
	wantSession(t, "bytes, not characters, one more", strings.Repeat("\u00e9", impl.MemMaxSession/2)+"x", tooLong)
	wantSession(t, "fewer characters than bytes", strings.Repeat("\u20ac", impl.MemMaxSession/2), tooLong)
	wantSession(t, "a cell of thousands", "cell 0"+strings.Repeat(" 0", (impl.MemMaxSession-6)/2), "no\n")
	wantSession(t, "spaces", strings.Repeat(" ", impl.MemMaxSession), "bad\n")
	wantSession(t, "much more", fill(1<<20), tooLong)
	line := strings.Repeat("y", 29) + "\n"
	both := strings.Repeat(line, impl.MemMaxLines)
	if len(both) != impl.MemMaxSession {
		t.Fatalf("%d bytes", len(both))
	}
	wantSession(t, "6000 in 200 lines", both, strings.Repeat("bad\n", impl.MemMaxLines))
	wantSession(t, "6001 in 200 lines", "y"+both, tooLong)
	wantSession(t, "6000 in 201 lines", both[:len(both)-2]+"\ny", tooLong)
	wantSession(t, "6001 in 201 lines", both+"y", tooLong)
}

// patterns are the lines of the document's table.
var patterns = []struct {
	form *regexp.Regexp
	read func(w []string, d func(word string) int) impl.MemEvent
}{
	{regexp.MustCompile(`^data ([^ ]*) ([^ ]*)$`), func(w []string, d func(string) int) impl.MemEvent { return makes(d(w[1]), data(w[2])) }},
	{regexp.MustCompile(`^weak ([^ ]*) ([^ ]*) ([^ ]*)$`), func(w []string, d func(string) int) impl.MemEvent { return makes(d(w[1]), weak(d(w[2]), d(w[3]))) }},
	{regexp.MustCompile(`^guardian ([^ ]*)$`), func(w []string, d func(string) int) impl.MemEvent { return makes(d(w[1]), guard()) }},
	{regexp.MustCompile(`^take ([^ ]*) ([^ ]*) ([^ ]*)$`), func(w []string, d func(string) int) impl.MemEvent { return takes(d(w[1]), d(w[2]), d(w[3])) }},
	{regexp.MustCompile(`^set ([^ ]*) ([^ ]*) ([^ ]*)$`), func(w []string, d func(string) int) impl.MemEvent { return sets(d(w[1]), d(w[2]), d(w[3])) }},
	{regexp.MustCompile(`^forget ([^ ]*)$`), func(w []string, d func(string) int) impl.MemEvent { return forgets(d(w[1])) }},
	{regexp.MustCompile(`^watch ([^ ]*) ([^ ]*)$`), func(w []string, d func(string) int) impl.MemEvent { return watching(d(w[1]), d(w[2])) }},
	{regexp.MustCompile(`^ask ([^ ]*) ([^ ]*)$`), func(w []string, d func(string) int) impl.MemEvent { return asks(d(w[1]), d(w[2])) }},
	{regexp.MustCompile(`^collect$`), func(w []string, d func(string) int) impl.MemEvent { return collects() }},
	{regexp.MustCompile(`^cell ([^ ]*)((?: [^ ]*)*)$`), func(w []string, d func(string) int) impl.MemEvent {
		made := makes(d(w[1]), cell())
		for at, word := range strings.Split(w[2], " ") {
			if at > 0 {
				made.Obj.Refs = append(made.Obj.Refs, d(word))
			}
		}
		return made
	}},
}

// figureOf is what the document asks of a D.
func figureOf(word string) int {
	for d := range 10 {
		if word == fmt.Sprint(d) {
			return d
		}
	}
	return -1
}

// lineOf is what the document asks of one line.
func lineOf(h impl.MemHeap, line string) (impl.MemHeap, string) {
	if line == "size" {
		return h, fmt.Sprintf("%d of %d", len(reachOf(h)), len(h.Objs))
	}
	for _, p := range patterns {
		if words := p.form.FindStringSubmatch(line); words != nil {
			return stepOf(h, p.read(words, figureOf))
		}
	}
	return h, "bad"
}

// linesOf are the lines of a text.
func linesOf(text string) []string {
	var lines []string
	for text != "" {
		line, rest, _ := strings.Cut(text, "\n")
		lines, text = append(lines, line), rest
	}
	return lines
}

// sessionOf is what the document asks of MemSession.
func sessionOf(text string) string {
	lines := linesOf(text)
	if len(text) > impl.MemMaxSession || len(lines) > impl.MemMaxLines {
		return tooLong
	}
	h := impl.MemHeap{Roots: roots(-1, -1, -1, -1, -1, -1, -1, -1)}
	var answers []string
	for _, line := range lines {
		next, seen := lineOf(h, line)
		h, answers = next, append(answers, seen)
	}
	return lined(answers...)
}

// line is one of the table, with few places, so that they are met again; now and then with a fault.
func (d *dice) line() string {
	name := []string{"data", "cell", "cell", "weak", "guardian", "take", "take", "set", "set", "forget", "watch", "watch", "ask", "ask", "collect", "size"}[d.below(16)]
	many := map[string]int{"data": 1, "cell": 1 + d.below(7), "weak": 3, "guardian": 1, "take": 3, "set": 3, "forget": 1, "watch": 2, "ask": 2}[name]
	words := []string{name}
	for range many {
		words = append(words, fmt.Sprint(d.below(5)))
	}
	if name == "data" {
		words = append(words, []string{"a", "b", "pear", "z9"}[d.below(4)])
	}
	switch d.below(25) {
	case 0:
		words[d.below(len(words))] = noFigures()[d.below(len(noFigures()))]
	case 1:
		words = append(words, fmt.Sprint(d.below(10)))
	case 2:
		words = words[:len(words)-1]
	}
	return strings.Join(words, " ")
}

func (d *dice) lines(many int) []string {
	var list []string
	for range many {
		list = append(list, d.line())
	}
	return list
}

// text is that many lines, with a newline at the end or without.
func (d *dice) text(many int) string {
	text := lined(d.lines(many)...)
	if d.below(2) == 0 {
		text = strings.TrimSuffix(text, "\n")
	}
	return text
}

// noise is that many bytes, mostly such as lines are made of.
func (d *dice) noise(size int) string {
	const usual = "  \n\n0123789acdeiklorstuwz"
	var b strings.Builder
	for b.Len() < size {
		switch d.below(12) {
		case 0:
			b.WriteByte(byte(d.below(256)))
		case 1, 2:
			b.WriteString(d.line() + "\n")
		default:
			b.WriteByte(usual[d.below(len(usual))])
		}
	}
	return b.String()
}

// sessions are texts of all kinds, some of them too long.
func sessions() []string {
	d := &dice{state: 64}
	list := []string{"", "\n"}
	for i := range 250 {
		list = append(list, d.text(i%60), d.noise(1+d.below(300)))
	}
	for range 12 {
		long := d.text(150 + d.below(50))
		// Without collections a heap is full in the end.
		list = append(list, long, strings.ReplaceAll(long, "collect", "guardian 4"), lined(d.lines(impl.MemMaxLines+1)...), d.noise(5000+d.below(2000)))
	}
	lines, _ := cutPairs(example()...)
	return append(list, lined(lines...))
}

func TestSessionOfMany(t *testing.T) {
	seenAll := map[string]int{}
	for _, text := range sessions() {
		want := sessionOf(text)
		wantSession(t, "of many", text, want)
		if t.Failed() {
			return
		}
		for _, seen := range linesOf(want) {
			seenAll[seen]++
		}
	}
	for _, seen := range []string{"too long", "bad", "no", "full", "ok", "none", "weak", "guardian", "cell of 0", "cell of 6", "pear", "0 of 0", "2 of 3"} {
		if seenAll[seen] == 0 {
			t.Errorf("never seen: %q", seen)
		}
	}
}

// Promise 8: each text has as many answers as lines, and its first lines have theirs, whatever stands behind them.
func TestSessionOfTheFirstLines(t *testing.T) {
	d := &dice{state: 33}
	for _, text := range sessions() {
		lines := linesOf(text)
		whole := impl.MemSession(text)
		if len(text) > impl.MemMaxSession || len(lines) > impl.MemMaxLines {
			wantSession(t, "too long", text, tooLong)
			continue
		}
		answers := linesOf(whole)
		if len(answers) != len(lines) || whole != lined(answers...) {
			t.Fatalf("%d lines, %d answers: %q is %q", len(lines), len(answers), text, whole)
		}
		for many := range len(lines) + 1 {
			first := lined(lines[:many]...)
			wantSession(t, "the first lines", first, lined(answers[:many]...))
			if many > 0 && lines[many-1] != "" {
				wantSession(t, "the first lines, without a newline", strings.TrimSuffix(first, "\n"), lined(answers[:many]...))
			}
			if many%10 == 0 {
				other := first + d.text(3)
				got := impl.MemSession(other)
				if got != tooLong && !strings.HasPrefix(got, lined(answers[:many]...)) {
					t.Fatalf("%q is %q, its first lines %q", other, got, answers[:many])
				}
			}
		}
		if t.Failed() {
			return
		}
	}
}

func TestSessionOfTheFirstLinesOfWhatIsTooLong(t *testing.T) {
	d := &dice{state: 12}
	for range 20 {
		lines := d.lines(impl.MemMaxLines)
		text := lined(lines...)
		if len(text) > impl.MemMaxSession {
			t.Fatalf("%d bytes", len(text))
		}
		answers := linesOf(impl.MemSession(text))
		wantSession(t, "one line more", text+"size", tooLong)
		wantSession(t, "one empty line more", text+"\n", tooLong)
		for _, many := range []int{1, 100, 199, 200} {
			wantSession(t, "the first lines", lined(lines[:many]...), lined(answers[:many]...))
		}
		few := lined(lines[:20]...)
		long := few + strings.Repeat("x", impl.MemMaxSession-len(few))
		wantSession(t, "6000 bytes", long, lined(answers[:20]...)+"bad\n")
		wantSession(t, "one byte more", long+"x", tooLong)
	}
}

// A line that is answered bad changes nothing: the others are answered as without it.
func TestSessionWithBadLines(t *testing.T) {
	d := &dice{state: 71}
	bads := []string{"", "bad", "size 0", "collect ", " collect", "forget", "data 0", "data 0 a b", "cell", "take 0 1", "set 0 1 2 3", "ask 0", "watch 0 1 2", "guardian"}
	for range 200 {
		lines := d.lines(30)
		answers := linesOf(impl.MemSession(lined(lines...)))
		at := d.below(len(lines) + 1)
		with := slices.Insert(slices.Clone(lines), at, bads[d.below(len(bads))])
		wantSession(t, "with a bad line", lined(with...), lined(slices.Insert(answers, at, "bad")...))
	}
}

func TestNothingOfASessionIsKept(t *testing.T) {
	list := sessions()
	var answers []string
	for _, text := range list {
		answers = append(answers, impl.MemSession(text))
	}
	for i, text := range slices.Backward(list) {
		wantSession(t, "asked again", text, answers[i])
		wantSession(t, "from nothing on", "size\ntake 0 1 0\nask 0 0\ncell 1 0\ntake 2 1 0", "0 of 0\nno\nno\ncell of 1\nnone\n")
	}
}

func TestSessionsFromMany(t *testing.T) {
	list := sessions()[:200]
	var want []string
	for _, text := range list {
		want = append(want, sessionOf(text))
	}
	var callers sync.WaitGroup
	for range 8 {
		callers.Go(func() {
			for i, text := range list {
				wantSession(t, "many callers", text, want[i])
			}
		})
	}
	callers.Wait()
}
