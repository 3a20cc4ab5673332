package sheet

import (
	"iter"
	"strconv"
	"strings"

	"besom/api"
)

// colours has the letter of each team.
const colours = "ry"

// Print returns the text of a position.
func Print(l []api.Stone) (string, api.Errno) {
	if !Check(l) {
		return "", api.ErrArg
	}
	var text []byte
	for _, s := range l {
		text = append(text, colours[s.Team], '1'+byte(s.N), ' ')
		text = strconv.AppendInt(text, int64(s.At.X), 10)
		text = append(text, ' ')
		text = strconv.AppendInt(text, int64(s.At.Y), 10)
		text = append(text, '\n')
	}
	return string(text), api.OK
}

// Parse returns the position of a text.
func Parse(s string) (l []api.Stone, at int, e api.Errno) {
	if len(s) > api.MaxText {
		return nil, 0, api.ErrLong
	}
	for start, line := range lines(s) {
		stone, ok := stoneOf(line)
		if !ok || len(l) == api.MaxStones {
			return nil, start, api.ErrForm
		}
		l = append(l, stone)
	}
	if !Check(l) {
		return nil, len(s), api.ErrArg
	}
	return l, 0, api.OK
}

// lines yields the lines of a text, each with its line feed (the last one may have none), and where it begins.
func lines(s string) iter.Seq2[int, string] {
	return func(yield func(int, string) bool) {
		at := 0
		for line := range strings.SplitAfterSeq(s, "\n") {
			// Behind the last line feed there is a part without a byte, which is no line.
			if line == "" || !yield(at, line) {
				return
			}
			at += len(line)
		}
	}
}

// stoneOf returns the stone of a line, and whether the line is one.
func stoneOf(line string) (stone api.Stone, ok bool) {
	text, ended := strings.CutSuffix(line, "\n")
	words := strings.Split(text, " ")
	if !ended || len(words) != 3 || len(words[0]) != 2 {
		return api.Stone{}, false
	}
	stone.Team = strings.IndexByte(colours, words[0][0])
	stone.N = int(words[0][1]) - '1'
	x, isX := coordinate(words[1])
	y, isY := coordinate(words[2])
	stone.At = api.Spot{X: x, Y: y}
	return stone, isNamed(stone) && isX && isY
}

// coordinate returns the integer of a text, and whether the text is one.
func coordinate(s string) (api.Fix, bool) {
	const most = 18 // digits
	n, err := strconv.ParseInt(s, 10, 64)
	// ParseInt takes plus signs and leading zeros too; what is printed has none.
	if err != nil || strconv.FormatInt(n, 10) != s || len(strings.TrimPrefix(s, "-")) > most {
		return 0, false
	}
	return api.Fix(n), true
}
