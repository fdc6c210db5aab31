package spanrec

import (
	"periscope/api"
	"periscope/octet"
	"periscope/varint"
)

// spanReader knows the order of a span's parts, and leaves the parts to the reader within.
type spanReader struct {
	reader
}

// span is what the parts say; beside an error it is nothing that may be used.
func (r *spanReader) span() api.Span {
	var s api.Span
	s.Trace.Hi = r.wide()
	s.Trace.Lo = r.wide()
	s.ID = r.wide()
	s.Up = r.wide()
	s.Name = r.name()
	s.Status = r.number()
	s.Seq = r.number()
	s.Kids = r.number()
	s.Shadow = r.shadow()
	s.Start = r.number()
	s.End = s.Start + r.number()
	return s
}

// reader goes through a text part by part. Behind the first error it reads nothing more, so that who reads need ask for the error only at the end.
type reader struct {
	text  string
	at    int
	errno api.Errno
}

func (r *reader) step(next int, errno api.Errno) {
	r.errno = errno
	if errno == api.OK {
		r.at = next
	}
}

// octets leaves it to octet.Get to tell a place below 0.
func (r *reader) octets(width int) uint64 {
	if r.errno != api.OK {
		return 0
	}
	n, errno := octet.Get(r.text, r.at, width)
	r.step(r.at+width, errno)
	return n
}

func (r *reader) wide() uint64 {
	return r.octets(wideBytes)
}

func (r *reader) shadow() bool {
	n := r.octets(shadeBytes)
	if n > mostShade {
		r.errno = api.ErrForm
	}
	return n == mostShade
}

// number is at most api.MaxTime, so that no sum of two of them wraps round.
func (r *reader) number() int {
	if r.errno != api.OK {
		return 0
	}
	n, next, errno := varint.Get(r.text, r.at)
	if errno == api.OK && n > api.MaxTime {
		n, errno = 0, api.ErrRange
	}
	r.step(next, errno)
	return int(n)
}

func (r *reader) name() string {
	if r.errno != api.OK {
		return ""
	}
	s, next, errno := varint.Take(r.text, r.at, api.MaxName)
	r.step(next, errno)
	return s
}
