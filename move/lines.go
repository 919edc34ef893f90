package move

import "foolscap/api"

// A line is a row to edits of rows, a column to edits of columns.

// ends are the first and the last of lines that stand side by side; since no line is 0, the zero value is none of them.
type ends struct{ first, last int }

// has tells whether a line is among them. None have not even the line 0, though it lies between their ends.
func (s ends) has(line int) bool { return s != (ends{}) && s.first <= line && line <= s.last }

// inOrder tells lines by what may be their ends: none, if the first one would stand behind the last one.
func inOrder(first, last int) ends {
	if first > last {
		return ends{}
	}
	return ends{first, last}
}

// together tells the lines that are among both.
func together(a, b ends) ends { return inOrder(max(a.first, b.first), min(a.last, b.last)) }

// left tells the ends of what is left of lines where others are taken out. What is taken out between two that are left is not to be seen in it.
func left(lines, out ends) ends {
	if out.has(lines.first) {
		lines.first = out.last + 1
	}
	if out.has(lines.last) {
		lines.last = out.first - 1
	}
	return inOrder(lines.first, lines.last)
}

// whole tells all lines of the sheet that a kind of edit knows; none, if it is no kind, so that no line can be edited by it.
func whole(kind api.EditKind) ends {
	switch kind {
	case api.InsRows, api.DelRows:
		return ends{1, api.MaxRow}
	case api.InsCols, api.DelCols:
		return ends{1, api.MaxCol}
	}
	return ends{}
}

func inserts(kind api.EditKind) bool { return kind == api.InsRows || kind == api.InsCols }

// opposite tells the kind that deletes what a kind inserts, or inserts where it deletes.
func opposite(kind api.EditKind) api.EditKind {
	switch kind {
	case api.InsRows:
		return api.DelRows
	case api.DelRows:
		return api.InsRows
	case api.InsCols:
		return api.DelCols
	}
	return api.InsCols
}

// along hands out that of a place which an edit may change, so that rows and columns are one thing from there on.
func along(kind api.EditKind, at *api.At) *int {
	if kind == api.InsRows || kind == api.DelRows {
		return &at.Row
	}
	return &at.Col
}

// lost tells the lines that have no place behind an edit: as many as it inserts go off the sheet's end, wherever they are inserted.
func lost(e api.Edit) ends {
	if inserts(e.Kind) {
		edge := whole(e.Kind).last
		return ends{edge - e.N + 1, edge}
	}
	return ends{e.At, e.At + e.N - 1}
}

// fateOfLost tells why the lost lines have no place.
func fateOfLost(kind api.EditKind) api.Fate {
	if inserts(kind) {
		return api.Off
	}
	return api.Gone
}

// carry brings a line that is not lost to where it is behind an edit.
func carry(e api.Edit, line *int) {
	switch {
	case *line < e.At:
	case inserts(e.Kind):
		*line += e.N
	default:
		*line -= e.N
	}
}
