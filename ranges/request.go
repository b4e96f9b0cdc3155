package ranges

import (
	"strconv"
	"strings"

	"weirgate/api"
)

const (
	unit      = "bytes="
	maxText   = 10000 // bytes of a request
	maxDigits = 15    // of a number
)

// Parse reads a request.
func Parse(text string, size int) (l []api.Span, e api.Errno) {
	if size < 0 || size > api.MaxBytes {
		return nil, api.ErrArg
	}
	if len(text) > maxText {
		return nil, api.ErrLimit
	}
	defer func() {
		if recover() != nil {
			l, e = nil, api.ErrForm
		}
	}()
	r := reader{text}
	r.expect(unit)
	spans := []api.Span{r.part(size)}
	for r.rest != "" {
		r.expect(",")
		spans = append(spans, r.part(size))
	}
	if l = Of(spans...); len(l) == 0 {
		return nil, api.ErrRange
	}
	return l, api.OK
}

// Print writes a request.
func Print(l []api.Span) string {
	if len(l) == 0 {
		return ""
	}
	parts := make([]string, len(l))
	for i, s := range l {
		parts[i] = strconv.Itoa(s.From) + "-" + strconv.Itoa(s.To-1)
	}
	return unit + strings.Join(parts, ",")
}

// reader reads a request from the left to the right; it panics where that is no request.
type reader struct{ rest string }

// expect reads a given text.
func (r *reader) expect(s string) {
	rest, ok := strings.CutPrefix(r.rest, s)
	if !ok {
		panic(api.ErrForm)
	}
	r.rest = rest
}

// part reads a part, and returns the bytes of an object of a size that it stands for.
func (r *reader) part(size int) api.Span {
	if strings.HasPrefix(r.rest, "-") {
		r.expect("-")
		return api.Span{From: max(0, size-r.number()), To: size}
	}
	from := r.number()
	r.expect("-")
	if r.rest == "" || r.rest[0] == ',' {
		return api.Span{From: from, To: size}
	}
	to := r.number()
	if to < from {
		panic(api.ErrForm)
	}
	return api.Span{From: from, To: min(size, to+1)}
}

// number reads a number.
func (r *reader) number() int {
	n := 0
	for n < len(r.rest) && r.rest[n] >= '0' && r.rest[n] <= '9' {
		n++
	}
	digits := r.rest[:n]
	if n < 1 || n > maxDigits || n > 1 && digits[0] == '0' {
		panic(api.ErrForm)
	}
	r.rest = r.rest[n:]
	value, _ := strconv.Atoi(digits)
	return value
}
