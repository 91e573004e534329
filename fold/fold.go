// Package fold lays words in lines, where more than one layer asks for it.
package fold

import "bulwark/api"

// maxLine is how many bytes a line has at most.
const maxLine = 100

// Words lays words in lines, with a blank between: one ends behind the last word that fits.
func Words(words []string) []api.Words {
	var l []api.Words
	size := maxLine
	for _, w := range words {
		if size+1+len(w) > maxLine {
			l = append(l, api.Words{})
			size = -1
		}
		last := &l[len(l)-1]
		last.Words = append(last.Words, w)
		size += 1 + len(w)
	}
	return l
}
