package playlist

import (
	"iter"
	"strconv"
	"strings"

	"weirgate/api"
)

const maxText = 65536

const hexDigits = "0123456789abcdef"

// Text writes a playlist.
func Text(p api.Playlist) (string, api.Errno) {
	if !Valid(p) {
		return "", api.ErrForm
	}
	var b strings.Builder
	for line := range lines(p) {
		b.WriteString(line)
		b.WriteByte('\n')
	}
	return b.String(), api.OK
}

// lines yields the lines of a playlist.
func lines(p api.Playlist) iter.Seq[string] {
	return func(yield func(string) bool) {
		if !yield("live " + strconv.Itoa(p.First)) {
			return
		}
		for _, s := range p.L {
			if !yield(strings.Join([]string{strconv.Itoa(s.Begin), strconv.Itoa(s.Len), strconv.Itoa(s.Size), hex(s.Body)}, " ")) {
				return
			}
		}
		if p.Done {
			yield("done")
		}
	}
}

func hex(d api.Digest) string {
	var b strings.Builder
	for _, c := range d {
		b.WriteByte(hexDigits[c>>4])
		b.WriteByte(hexDigits[c&15])
	}
	return b.String()
}

// unreadable is what a reader panics with.
type unreadable struct{}

// Parse reads a playlist.
func Parse(s string) (p api.Playlist, e api.Errno) {
	if len(s) > maxText {
		return api.Playlist{}, api.ErrLimit
	}
	defer func() {
		if recover() != nil {
			p, e = api.Playlist{}, api.ErrForm
		}
	}()
	p = read(s)
	// A number can be written in many ways, but only one of them is that of Text.
	if text, e := Text(p); e != api.OK || text != s {
		panic(unreadable{})
	}
	return p, api.OK
}

// read reads the lines of a playlist, and panics where it cannot.
func read(s string) api.Playlist {
	rows := strings.Split(strings.TrimSuffix(s, "\n"), "\n")
	p := api.Playlist{First: number(fields(rows[0], 2)[1])}
	for _, row := range rows[1:] {
		if row == "done" {
			p.Done = true
			continue
		}
		f := fields(row, 4)
		p.L = append(p.L, api.Segment{Num: p.First + len(p.L), Begin: number(f[0]), Len: number(f[1]), Size: number(f[2]), Body: digest(f[3])})
	}
	return p
}

func fields(row string, n int) []string {
	l := strings.Split(row, " ")
	if len(l) != n {
		panic(unreadable{})
	}
	return l
}

func number(s string) int {
	n, err := strconv.Atoi(s)
	if err != nil {
		panic(unreadable{})
	}
	return n
}

func digest(s string) api.Digest {
	var d api.Digest
	if len(s) != 2*len(d) {
		panic(unreadable{})
	}
	for i := range s {
		digit := strings.IndexByte(hexDigits, s[i])
		if digit < 0 {
			panic(unreadable{})
		}
		d[i/2] = d[i/2]<<4 | byte(digit)
	}
	return d
}
