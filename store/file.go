package store

import (
	"bytes"

	"trivium/api"
	"trivium/box"
	"trivium/front"
	"trivium/lines"
	"trivium/pack"
	"trivium/term"
)

const (
	termsID   = 1 // the section of the terms
	triplesID = 2 // the section of the triples' numbers
	countSize = 2 // bytes that tell how many triples there are
)

// Encode is it as a file.
func (s *Store) Encode() []byte {
	if s == nil {
		return nil
	}
	texts := make([]string, len(s.terms))
	for i, t := range s.terms {
		texts[i] = term.Show(t)
	}
	dict, no := front.New(texts)
	if no != api.OK {
		return nil
	}
	file, no := box.Pack([]api.Section{
		{ID: termsID, Body: dict.Bytes()},
		{ID: triplesID, Body: s.encodeTriples()},
	})
	if no != api.OK {
		return nil
	}
	return file
}

func (s *Store) encodeTriples() []byte {
	n := len(s.triples)
	var numbers []int
	for _, t := range s.ring.All(api.IDs{}) {
		numbers = append(numbers, t[:]...)
	}
	packed, no := pack.Pack(numbers, pack.Width(len(s.terms)))
	if no != api.OK {
		return nil
	}
	return append([]byte{byte(n >> 8), byte(n)}, packed...)
}

// Decode is a file's store.
func Decode(b []byte) (*Store, api.Errno) {
	l, no := box.Unpack(b)
	if no != api.OK || len(l) != 2 {
		return nil, api.ErrForm
	}
	dict, no := front.Read(l[0].Body)
	if no != api.OK {
		return nil, api.ErrForm
	}
	triples, ok := decodeTriples(l[1].Body, dict)
	if !ok {
		return nil, api.ErrForm
	}
	s, no := build(lines.Sort(triples))
	// Terms that no triple has, another order, copies: none of them is what Encode would write.
	if no != api.OK || !bytes.Equal(s.Encode(), b) {
		return nil, api.ErrForm
	}
	return s, api.OK
}

// decodeTriples is triples that may be, as the numbers name their terms.
func decodeTriples(b []byte, dict *front.Dict) ([]api.Triple, bool) {
	if len(b) < countSize {
		return nil, false
	}
	n := int(b[0])<<8 | int(b[1])
	if n > api.MaxTriples {
		return nil, false
	}
	numbers, no := pack.Unpack(b[countSize:], 3*n, pack.Width(dict.Len()))
	if no != api.OK {
		return nil, false
	}
	l := make([]api.Triple, n)
	for i := range l {
		s, p, o := dict.Extract(numbers[3*i]), dict.Extract(numbers[3*i+1]), dict.Extract(numbers[3*i+2])
		// A line has each text again as a term; texts that are not a term's Show are told by Encode.
		t, has, ok := lines.One(s + " " + p + " " + o + " .")
		if !ok || !has {
			return nil, false
		}
		l[i] = t
	}
	return l, true
}
