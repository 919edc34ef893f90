package strs

import "foolscap/api"

// blank is what Trim takes away.
const blank = " "

// row is texts that are put one behind the other.
type row struct{ bytes []byte }

// put puts a text behind the others, and cuts off what would go too far.
func (r *row) put(s string) {
	if len(s) > api.MaxText-len(r.bytes) {
		panic(refused)
	}
	r.bytes = append(r.bytes, s...)
}

// joined tells texts as one.
func joined(all ...string) string {
	var out row
	for _, s := range all {
		out.put(s)
	}
	return string(out.bytes)
}

// repeated tells a text n times. The empty one is not put so often, since nothing would cut it off.
func repeated(s string, n int) string {
	if s == "" {
		return ""
	}
	var out row
	for range n {
		out.put(s)
	}
	return string(out.bytes)
}

// substituted tells a text with a new part in the place of each old one, or of the k-th.
func substituted(s, old, new string, k int) string {
	var out row
	for i, part := range parts(s, old) {
		switch {
		case i == 0:
		case k == 0 || k == i:
			out.put(new)
		default:
			out.put(old)
		}
		out.put(part)
	}
	return string(out.bytes)
}

// trimmed tells a text's words, with one blank between.
func trimmed(s string) string {
	var out row
	for _, word := range parts(s, blank) {
		if word == "" {
			continue
		}
		if len(out.bytes) > 0 {
			out.put(blank)
		}
		out.put(word)
	}
	return string(out.bytes)
}

// lowered goes by bytes, since a text need not be made of runes.
func lowered(s string) string {
	out := []byte(s)
	for i, b := range out {
		if 'A' <= b && b <= 'Z' {
			out[i] = b - 'A' + 'a'
		}
	}
	return string(out)
}
