package console

import (
	"slices"
	"strings"

	"sealskin/api"
	"sealskin/lang"
)

// script is what a text says: a policy, its labels' names, and what happens.
type script struct {
	policy api.Policy
	names  []string
	lines  []line
}

// readScript is the script that a text is; or the line that is none, and why.
func readScript(s string) (script, int, api.Errno) {
	if len(s) > api.MaxScript {
		return script{}, 0, api.ErrLong
	}
	rows := strings.Split(s, "\n")
	parting := slices.Index(rows, "go")
	if parting < 0 {
		return script{}, len(rows), api.ErrLine
	}
	policy, names, at, bad := lang.Parse(strings.Join(rows[:parting], "\n"))
	if bad != api.OK {
		return script{}, at, bad
	}
	out := script{policy: policy, names: names}
	for i := parting + 1; i < len(rows); i++ {
		if isSilent(rows[i]) {
			continue
		}
		l, ok := readLine(rows[i])
		if !ok {
			return script{}, i + 1, api.ErrLine
		}
		out.lines = append(out.lines, l)
	}
	return out, 0, api.OK
}

// isSilent tells whether a line says nothing. Such a one may be of any length.
func isSilent(row string) bool { return row == "" || row[0] == '#' }
