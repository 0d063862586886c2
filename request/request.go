// Package request: requests, and what is put together of them.
package request

import (
	"slices"
	"strconv"
	"strings"

	"weighbridge/api"
	"weighbridge/span"
)

// Check a request.
func Check(r api.Req) error {
	if err := span.Check(r.Span, api.MaxMerge); err != nil {
		return err
	}
	if len(r.Data) != dataOf(r) {
		return api.ErrShape
	}
	if len(r.Tags) < 1 || len(r.Tags) > api.MaxMerge {
		return api.ErrShape
	}
	if r.Born < 0 || r.Born > api.MaxTime || slices.ContainsFunc(r.Data, tooLong) {
		return api.ErrBound
	}
	return nil
}

// dataOf: how many Data a request must have.
func dataOf(r api.Req) int {
	if r.Write {
		return r.Span.Many
	}
	return 0
}

func tooLong(data string) bool { return len(data) > api.MaxData }

// Merge two that are next to each other: one; false: they don't go together.
func Merge(a, b api.Req) (api.Req, bool) {
	if span.Next(b.Span, a.Span) {
		a, b = b, a
	}
	if !together(a, b) {
		return api.Req{}, false
	}
	return api.Req{
		Write: a.Write,
		Span:  api.Span{From: a.Span.From, Many: a.Span.Many + b.Span.Many},
		Data:  slices.Concat(a.Data, b.Data),
		Tags:  slices.Concat(a.Tags, b.Tags),
		Born:  min(a.Born, b.Born),
	}, true
}

// together: do two go together, the first one with the lower sectors?
func together(a, b api.Req) bool {
	return span.Next(a.Span, b.Span) &&
		a.Write == b.Write &&
		a.Span.Many+b.Span.Many <= api.MaxMerge &&
		len(a.Tags)+len(b.Tags) <= api.MaxMerge
}

// Part of what was read: what a sector has; false: it isn't in it.
func Part(r api.Result, at int) (string, bool) {
	if !span.Has(r.Req.Span, at) {
		return "", false
	}
	i := at - r.Req.Span.From
	if i >= len(r.Data) {
		return "", false
	}
	return r.Data[i], true
}

// Text of a request: r or w, its span, its tags.
func Text(r api.Req, digits func(int) string) string {
	// Without a caller's way to tell numbers they are told as everywhere else.
	if digits == nil {
		digits = strconv.Itoa
	}
	var b strings.Builder
	b.WriteString(letter(r))
	b.WriteString(digits(r.Span.From))
	b.WriteString("+")
	b.WriteString(digits(r.Span.Many))
	b.WriteString("#")
	for i, tag := range r.Tags {
		if i > 0 {
			b.WriteString(",")
		}
		b.WriteString(digits(tag))
	}
	return b.String()
}

func letter(r api.Req) string {
	if r.Write {
		return "w"
	}
	return "r"
}
