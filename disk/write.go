package disk

// write is a write that is pending: it was done on what is seen without an error.
type write interface {
	whole(on parts)
	// torn does the first n bytes of it alone.
	torn(on parts, n int)
}

// put puts a block.
type put struct {
	i int
	b []byte
}

func (w put) whole(on parts) { on.Put(w.i, w.b) }

func (w put) torn(on parts, n int) { on.Tear(w.i, w.b, n) }

// grow puts bytes behind all on the tape.
type grow struct{ b []byte }

func (w grow) whole(on parts) { on.Append(w.b) }

func (w grow) torn(on parts, n int) { on.Append(w.b[:kept(n, len(w.b))]) }

// drop lets the tape's first segments go. It has no bytes: torn, it is as if it had never been.
type drop struct{ keep int64 }

func (w drop) whole(on parts) { on.Drop(w.keep) }

func (w drop) torn(parts, int) {}

// cut lets the tape's last bytes go. It has no bytes either.
type cut struct{ end int64 }

func (w cut) whole(on parts) { on.Cut(w.end) }

func (w cut) torn(parts, int) {}
