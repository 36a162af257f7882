package chip

import (
	"lintel/api"
	"lintel/fuses"
	"lintel/image"
)

// What a run notes.
const (
	begun      = 1
	wrongFuses = 2
	wrongState = 3
	noImage    = 4
	jumping    = 9
	checkedA   = 16 // and the error
	checkedB   = 32 // and the error
)

// run: what is bound to one run of a chip.
type run struct {
	chip *Chip
	room int  // how many more bytes it can note
	cut  bool // it had to note more
}

// do goes through the run, up to its end or to where it is cut: then there is no outcome.
func (r *run) do() api.Outcome {
	// The cut may come anywhere: the locks that there are by then go, and the rest of the run is left undone.
	defer func() {
		if r.cut {
			r.chip.unlock()
			recover()
		}
	}()
	return r.steps()
}

// steps are those of a run that nothing cuts (P9).
func (r *run) steps() api.Outcome {
	r.note(begun)
	f, e := fuses.Read(r.chip.words[:])
	if e != api.OK {
		return r.stop(wrongFuses, api.ErrFuses)
	}
	if f.State != api.Test && f.State != api.Prod {
		return r.stop(wrongState, api.ErrState)
	}
	greatest := api.OK
	for slot, checked := range [2]int{checkedA, checkedB} {
		entry, e := image.Check(r.chip.bytesOf(slot), f)
		r.note(checked + int(e))
		if e == api.OK {
			return r.jump(slot, entry)
		}
		greatest = max(greatest, e)
	}
	return r.stop(noImage, greatest)
}

// note keeps a byte. Where there is no room for it the power fails, wherever in the run that is: hence the panic, which ends in do.
func (r *run) note(b int) {
	if r.room <= 0 {
		r.cut = true
		panic("the run is cut")
	}
	r.room--
	r.chip.keep(byte(b))
}

// jump locks ahead of its note: nobody may change the image once it was chosen.
func (r *run) jump(slot, entry int) api.Outcome {
	r.chip.lock(slot)
	r.note(jumping)
	return api.Outcome{Jump: true, Slot: slot, Entry: entry}
}

func (r *run) stop(why int, reason api.Errno) api.Outcome {
	r.note(why)
	return api.Outcome{Reason: reason}
}
