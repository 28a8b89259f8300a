// Package batch: what streams contain. It is no layer: what packages stream and realm share is in it.
package batch

import (
	"strings"

	"annalist/api"
	"annalist/code"
	"annalist/elem"
	"annalist/frame"
	"annalist/key"
	"annalist/number"
)

// The kinds of frames of which a stream consists.
const (
	beginKind = 1
	elemKind  = 2
	endKind   = 3
)

// A frame of kind 1 has this many numbers, each of which takes numberSize bytes.
const (
	numbers    = 3
	numberSize = 4
)

// Batch is what happened in a realm after From and up to To: the records that were created or deleted then.
type Batch struct {
	Pfs, From, To int
	Elems         []api.Elem
}

// Check validates a realm and the times between which something may have happened in it.
func Check(pfs, from, to int) api.Errno {
	if pfs < 0 || pfs > api.MaxPfs {
		return api.ErrArg
	}
	if from < 0 || from > to || to > api.MaxTid {
		return api.ErrTid
	}
	return api.OK
}

// Write returns the stream with a valid batch.
func Write(b Batch) string {
	var s strings.Builder
	s.WriteString(put(beginKind, encode(b.Pfs)+encode(b.From)+encode(b.To)))
	for _, e := range b.Elems {
		text, _ := code.Write(e)
		s.WriteString(put(elemKind, text))
	}
	s.WriteString(put(endKind, encode(len(b.Elems))))
	return s.String()
}

// put returns a frame. There is no error: the kinds are in bounds, and the bodies are short.
func put(kind int, body string) string {
	s, _ := frame.Put(api.Frame{Kind: kind, Body: body})
	return s
}

// encode returns n in four bytes.
func encode(n int) string {
	return string(number.Append(nil, n, numberSize))
}

// Read returns the batch in a stream. Frames are checked in order, so an error of one hides those of all after it.
func Read(s string) (Batch, api.Errno) {
	f, n, err := frame.Get(s)
	if err != api.OK {
		return Batch{}, err
	}
	b, found := begin(f)
	if !found {
		return Batch{}, api.ErrForm
	}
	for {
		s = s[n:]
		f, n, err = frame.Get(s)
		if err != api.OK {
			return Batch{}, err
		}
		if f.Kind == endKind {
			break
		}
		e, found := b.next(f)
		if !found {
			return Batch{}, api.ErrForm
		}
		b.Elems = append(b.Elems, e)
	}
	// What follows the last frame is no frame of the stream, so it makes this one wrong, whatever it is.
	if f.Body != encode(len(b.Elems)) || n != len(s) {
		return Batch{}, api.ErrForm
	}
	return b, api.OK
}

// begin returns the batch without records that the first frame of a stream announces, and whether it does.
func begin(f api.Frame) (Batch, bool) {
	if f.Kind != beginKind || len(f.Body) != numbers*numberSize {
		return Batch{}, false
	}
	var l [numbers]int
	for i := range l {
		l[i] = number.Of(f.Body[i*numberSize : (i+1)*numberSize])
	}
	b := Batch{Pfs: l[0], From: l[1], To: l[2]}
	if Check(b.Pfs, b.From, b.To) != api.OK {
		return Batch{}, false
	}
	return b, true
}

// next returns the record in a frame, and whether it may follow the records of the batch.
func (b Batch) next(f api.Frame) (api.Elem, bool) {
	e, n, err := code.Get(f.Body)
	if f.Kind != elemKind || err != api.OK || n != len(f.Body) || !b.covers(e) || !b.precedes(e) {
		return api.Elem{}, false
	}
	return e, true
}

// covers reports whether the last thing that happened to a record happened in this realm and between these times.
func (b Batch) covers(e api.Elem) bool {
	last := elem.Last(e)
	return e.Key.Pfs == b.Pfs && last > b.From && last <= b.To
}

// precedes reports whether the spots of all records of the batch are less than that of e.
func (b Batch) precedes(e api.Elem) bool {
	if len(b.Elems) == 0 {
		return true
	}
	last := b.Elems[len(b.Elems)-1]
	return key.CmpSpot(elem.Spot(last), elem.Spot(e)) < 0
}
