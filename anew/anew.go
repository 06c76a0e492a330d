// Package anew is a number in a file of its own, that is written anew: at no moment is there half of it. The store's age (DOC.md, chapter 16) and a place's bound (chapter 23) are kept so.
package anew

import (
	"meridian/api"
	"meridian/disk"
	"meridian/frame"
	"meridian/octet"
)

// behind is what the name of the next file has behind that of the file.
const behind = "~"

// Read is the number in a file, at most so much; 0 without the file.
func Read(d *disk.Disk, name string, most int) (int, api.Errno) {
	b, e := d.Read(name)
	if e == api.ErrNone {
		return 0, api.OK
	}
	p, e := frame.One(b)
	if e != api.OK {
		return 0, api.ErrForm
	}
	r := octet.NewReader(p)
	n := r.Num()
	if !r.Whole() || n > most {
		return 0, api.ErrForm
	}
	return n, api.OK
}

// Write puts a file with the number in the place of the elder one.
func Write(d *disk.Disk, name string, n int) api.Errno {
	var w octet.Writer
	w.Nums(n)
	b, e := frame.Encode(w.Out())
	if e != api.OK {
		return e
	}
	next := name + behind
	if e := d.Remove(next); e != api.OK && e != api.ErrNone {
		return e
	}
	if e := d.Write(next, b); e != api.OK {
		return e
	}
	if e := d.Sync(next); e != api.OK {
		return e
	}
	return d.Rename(next, name)
}
