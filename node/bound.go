package node

import (
	"meridian/api"
	"meridian/disk"
	"meridian/frame"
	"meridian/octet"
)

const (
	boundName = "bound"
	newName   = "bound~"
)

// readBound is what the bound's file tells; 0 without it.
func readBound(d *disk.Disk) (int, api.Errno) {
	b, e := d.Read(boundName)
	if e == api.ErrNone {
		return 0, api.OK
	}
	p, e := frame.One(b)
	if e != api.OK {
		return 0, api.ErrForm
	}
	r := octet.NewReader(p)
	bound := r.Num()
	if !r.Whole() || bound > api.MaxMilli {
		return 0, api.ErrForm
	}
	return bound, api.OK
}

// writeBound puts another file in the place of the bound's: at no moment there is none, or half of one.
func writeBound(d *disk.Disk, bound int) api.Errno {
	var w octet.Writer
	w.Nums(bound)
	b, e := frame.Encode(w.Out())
	if e != api.OK {
		return e
	}
	if e := d.Remove(newName); e != api.OK && e != api.ErrNone {
		return e
	}
	if e := d.Write(newName, b); e != api.OK {
		return e
	}
	if e := d.Sync(newName); e != api.OK {
		return e
	}
	return d.Rename(newName, boundName)
}
