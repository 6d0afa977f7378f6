package wal

import (
	"math"
	"slices"
	"testing"

	"pledge/api"
	"pledge/disk"
	"pledge/frame"
	"pledge/rec"
)

const (
	least    = math.MinInt64
	greatest = math.MaxInt64
)

// abort is a record of 11 bytes.
func abort(txn uint32) api.Rec { return api.Rec{Kind: api.RcAbort, Txn: txn} }

// placing is a program with lists.
func placing() api.Program {
	return api.Program{
		Kind: api.RqPlace, Order: 9,
		Lines: []api.Line{{Sku: 0, Qty: 5}},
		Takes: []api.Take{{Order: 9, Sku: 0, Ware: 1, Qty: 3}},
		Owes:  []api.Line{{Sku: 0, Qty: 2}},
	}
}

// goodRecs are records of all kinds that may be.
func goodRecs() []api.Rec {
	k := api.Key{Kind: api.KHeld, Sku: 2, Ware: 1}
	return []api.Rec{
		{Kind: api.RcStart, Saga: 7, Prog: placing()},
		{Kind: api.RcBegin, Saga: 7, Txn: 8, Step: 4, Comp: true},
		{Kind: api.RcAdd, Txn: 8, Key: k, Delta: -3},
		{Kind: api.RcCommit, Txn: 8},
		{Kind: api.RcStart, Saga: math.MaxUint32, Prog: api.Program{Kind: api.RqTransfer, Sku: 3, From: 3, To: 2, Qty: greatest}},
		abort(math.MaxUint32),
		{Kind: api.RcUndo, Txn: 8, Key: k, Delta: greatest},
		{Kind: api.RcGone, Txn: 8},
		{Kind: api.RcBack, Saga: 7},
		{Kind: api.RcDone, Saga: 7, Out: api.OcCompensated},
	}
}

// badRecs are records that may not be.
func badRecs() []api.Rec {
	return []api.Rec{
		{},
		{Kind: 10, Txn: 1},
		{Kind: 255},
		{Kind: api.RcStart, Saga: 1},
		{Kind: api.RcStart, Prog: placing()},
		{Kind: api.RcStart, Saga: 1, Prog: api.Program{Kind: api.RqQuery, Qty: 1}},
		{Kind: api.RcBegin, Saga: 1, Txn: 1, Step: 5},
		{Kind: api.RcAdd, Txn: 1, Key: api.Key{Kind: api.KHeld}},
		{Kind: api.RcAdd, Txn: 1, Key: api.Key{Kind: api.KHeld}, Delta: least},
		{Kind: api.RcUndo, Txn: 1, Key: api.Key{Kind: 5}, Delta: 1},
		abort(0),
		{Kind: api.RcCommit, Txn: 1, Saga: 1},
		{Kind: api.RcDone, Saga: 1, Out: 3},
	}
}

// places are places at and beyond all ends.
func places(l ...int64) []int64 {
	for _, x := range slices.Clone(l) {
		l = append(l, x-1, x+1)
	}
	return append(l, least, least+1, -1<<32, -65536, -1, 0, 1, 1<<32, 1<<32+64, greatest-1, greatest)
}

// within is x, kept from lo to hi.
func within(x, lo, hi int64) int64 {
	if x < lo {
		return lo
	}
	if x > hi {
		return hi
	}
	return x
}

// text is the frames of records, one behind another.
func text(t *testing.T, l ...api.Rec) []byte {
	t.Helper()
	var b []byte
	for _, r := range l {
		pay, e := rec.Encode(r)
		if e != api.OK {
			t.Fatal("a record of the test may not be", r)
		}
		b = append(b, put(t, pay)...)
	}
	return b
}

// put is a payload's frame.
func put(t *testing.T, pay []byte) []byte {
	t.Helper()
	f, e := frame.Put(pay)
	if e != api.OK {
		t.Fatal("a payload of the test has no frame", pay)
	}
	return f
}

// taped is a disk with a tape of n bytes that is dropped below keep, all of which is sure.
func taped(t *testing.T, n int, keep int64) *disk.Disk {
	t.Helper()
	d := disk.New(2, 16, 64, 1000)
	b := make([]byte, n)
	for i := range b {
		b[i] = byte(i + 1)
	}
	if d.Append(b) != api.OK {
		t.Fatal("a tape of the test is too long")
	}
	d.Drop(keep)
	d.Sync()
	return d
}

// appends puts records behind all, which must be possible.
func appends(t *testing.T, l *Log, recs ...api.Rec) {
	t.Helper()
	for _, r := range recs {
		end := l.End()
		at, e := l.Append(r)
		if at != end || e != api.OK || l.End() != end+int64(rec.Size(r)) {
			t.Fatalf("%v: at %d, error %d, then the end is %d; it was %d", r, at, e, l.End(), end)
		}
	}
}

// tells asks for all that a log tells.
func tells(t *testing.T, what string, l *Log, end, written, sure, keep int64) {
	t.Helper()
	if l.End() != end || l.Written() != written || l.Sure() != sure || l.Keep() != keep || l.Used() != end-keep {
		t.Errorf("%s: end %d, written %d, sure %d, keep %d, used %d; want %d, %d, %d, %d, %d",
			what, l.End(), l.Written(), l.Sure(), l.Keep(), l.Used(), end, written, sure, keep, end-keep)
	}
}

// wants asks for an error.
func wants(t *testing.T, what string, e, want api.Errno) {
	t.Helper()
	if e != want {
		t.Errorf("%s: error %d; want %d", what, e, want)
	}
}

// scans asks that bytes are scanned as these records, from the place at on, with an error.
func scans(t *testing.T, what string, b []byte, at int64, recs []api.Rec, want api.Errno) {
	t.Helper()
	l, end, e := Scan(b, at)
	if len(l) != len(recs) || e != want {
		t.Fatalf("%s: %d records, error %d; want %d, error %d", what, len(l), e, len(recs), want)
	}
	for i, x := range l {
		if x.At != at || !rec.Same(x.Rec, recs[i]) {
			t.Fatalf("%s: record %d is %v; want %v at %d", what, i, x, recs[i], at)
		}
		at += int64(rec.Size(recs[i]))
	}
	if end != at {
		t.Fatalf("%s: the place behind is %d; want %d", what, end, at)
	}
}

// TestExample is the chapter's example (P15.2).
func TestExample(t *testing.T) {
	l := Open(disk.New(0, 0, 64, 100), 0, 0)
	appends(t, l, api.Rec{Kind: api.RcCommit, Txn: 1})
	tells(t, "appended", l, 11, 0, 0, 0)
	wants(t, "write", l.Write(), api.OK)
	tells(t, "written", l, 11, 11, 0, 0)
	l.Sync()
	tells(t, "sure", l, 11, 11, 11, 0)
}

// TestOpen: a log goes on at a place that the tape has, and what is behind that is cut (P15.1).
func TestOpen(t *testing.T) {
	for _, tape := range [][2]int64{{0, 0}, {1, 0}, {64, 0}, {100, 0}, {100, 70}, {128, 128}, {200, 199}} {
		first, last := tape[1]/64*64, tape[0]
		for _, end := range places(first, last, 90) {
			for _, keep := range places(first, last, 90) {
				d := taped(t, int(last), tape[1])
				all := d.Bytes(0)
				l := Open(d, end, keep)
				at := within(end, first, last)
				tells(t, "opened", l, at, at, at, within(keep, first, at))
				if d.First() != first || d.End() != at || !slices.Equal(d.Bytes(0), all[:at-first]) {
					t.Fatalf("the tape from %d to %d goes from %d to %d behind Open at %d", first, last, d.First(), d.End(), end)
				}
				cuts := 0
				if at < last {
					cuts = 1
				}
				if d.Pending() != cuts {
					t.Fatalf("%d are pending behind Open at %d of %d; want %d", d.Pending(), end, last, cuts)
				}
			}
		}
	}
}

// TestOpenPending: what is on the tape counts as sure, whether it is or not; the disk is not made sure (P15.1).
func TestOpenPending(t *testing.T) {
	d := disk.New(0, 0, 64, 100)
	d.Append(text(t, abort(1), abort(2)))
	l := Open(d, 22, 11)
	tells(t, "opened", l, 22, 22, 22, 11)
	if d.Pending() != 1 {
		t.Error(d.Pending(), "are pending")
	}
	d.Crash(0, 0)
	if d.End() != 0 {
		t.Error("Open made the disk sure")
	}
}

// TestAppend: records wait one behind another, and nothing is on the tape (P15.2).
func TestAppend(t *testing.T) {
	d := taped(t, 70, 0)
	l := Open(d, 68, 64)
	pending := d.Pending()
	end := int64(68)
	for _, r := range goodRecs() {
		appends(t, l, r)
		end += int64(rec.Size(r))
		tells(t, "appended", l, end, 68, 68, 64)
		for _, bad := range badRecs() {
			if at, e := l.Append(bad); at != 0 || e != api.ErrArg {
				t.Errorf("%v: at %d, error %d", bad, at, e)
			}
		}
		tells(t, "refused", l, end, 68, 68, 64)
	}
	if d.End() != 68 || d.Pending() != pending {
		t.Error("Append wrote")
	}
	wants(t, "write", l.Write(), api.OK)
	if !slices.Equal(d.Bytes(68), text(t, goodRecs()...)) {
		t.Error("not the frames, one behind another")
	}
}

// TestAppendBytes: what stands on the tape, byte by byte (P15.2).
func TestAppendBytes(t *testing.T) {
	d := disk.New(0, 0, 64, 100)
	l := Open(d, 0, 0)
	appends(t, l, api.Rec{Kind: api.RcBack, Saga: 0x01020304})
	l.Write()
	b := d.Bytes(0)
	if len(b) != 11 || b[0] != 5 || b[1] != 0 || !slices.Equal(b[6:], []byte{8, 4, 3, 2, 1}) {
		t.Error(b)
	}
}

// TestWrite: all that waits is one write; without any there is none (P15.2).
func TestWrite(t *testing.T) {
	d := disk.New(0, 0, 64, 1000)
	l := Open(d, 0, 0)
	wants(t, "nothing waits", l.Write(), api.OK)
	if d.Pending() != 0 {
		t.Error("nothing was written, and that is pending")
	}
	appends(t, l, goodRecs()...)
	end := l.End()
	wants(t, "write", l.Write(), api.OK)
	tells(t, "written", l, end, end, 0, 0)
	if d.Pending() != 1 || d.End() != end {
		t.Error(d.Pending(), "are pending, the tape ends at", d.End())
	}
	wants(t, "written again", l.Write(), api.OK)
	if d.Pending() != 1 || d.End() != end {
		t.Error("all was written twice")
	}
	appends(t, l, abort(3))
	tells(t, "appended behind", l, end+11, end, 0, 0)
	wants(t, "write", l.Write(), api.OK)
	if d.Pending() != 2 || d.End() != end+11 {
		t.Error(d.Pending(), "are pending, the tape ends at", d.End())
	}
	scans(t, "all", d.Bytes(0), 0, append(goodRecs(), abort(3)), api.OK)
}

// TestWriteFull: what the disk refuses waits on, and is written once there is room (P15.2).
func TestWriteFull(t *testing.T) {
	d := disk.New(0, 0, 64, 99)
	l := Open(d, 0, 0)
	for i := range 9 {
		appends(t, l, abort(uint32(i+1)))
	}
	wants(t, "just as much as there may be", l.Write(), api.OK)
	l.Sync()
	appends(t, l, abort(10), abort(11))
	for range 3 {
		wants(t, "full", l.Write(), api.ErrFull)
		tells(t, "full", l, 121, 99, 99, 0)
		if d.End() != 99 || d.Pending() != 0 {
			t.Fatal("a part was written")
		}
	}
	appends(t, l, abort(12))
	wants(t, "fuller", l.Write(), api.ErrFull)
	l.Trim(66)
	tells(t, "trimmed", l, 132, 99, 99, 66)
	wants(t, "room", l.Write(), api.OK)
	tells(t, "written", l, 132, 132, 99, 66)
	scans(t, "the last ones", d.Bytes(66), 66, []api.Rec{abort(7), abort(8), abort(9), abort(10), abort(11), abort(12)}, api.OK)
}

// TestWriteLong: more than may be written at once is not written in parts (P15.2).
func TestWriteLong(t *testing.T) {
	d := disk.New(0, 0, api.MaxSeg, api.MaxCap)
	l := Open(d, 0, 0)
	most := int64(api.MaxAct / 11 * 11)
	for l.End() < most {
		appends(t, l, abort(1))
	}
	wants(t, "nearly too long", l.Write(), api.OK)
	tells(t, "written", l, most, most, 0, 0)
	for l.End() < 2*most+11 {
		appends(t, l, abort(2))
	}
	wants(t, "too long", l.Write(), api.ErrLong)
	tells(t, "too long", l, 2*most+11, most, 0, 0)
	if d.End() != most || d.Pending() != 1 {
		t.Error("a part was written")
	}
}

// TestSync: what is written is sure, with all else on the disk; what waits, waits (P15.2).
func TestSync(t *testing.T) {
	d := disk.New(1, 2, 64, 100)
	l := Open(d, 0, 0)
	appends(t, l, abort(1))
	l.Sync()
	tells(t, "nothing written", l, 11, 0, 0, 0)
	l.Write()
	appends(t, l, abort(2))
	d.Put(0, []byte("ab"))
	tells(t, "no sync", l, 22, 11, 0, 0)
	l.Sync()
	tells(t, "sync", l, 22, 11, 11, 0)
	if d.Pending() != 0 || d.End() != 11 {
		t.Error(d.Pending(), "are pending, the tape ends at", d.End())
	}
	d.Crash(0, 0)
	if d.End() != 11 || string(d.Block(0)) != "ab" {
		t.Error("what is sure went")
	}
}

// TestTrim: what is kept never grows at its beginning, and begins with what is sure at most (P15.2).
func TestTrim(t *testing.T) {
	for _, keep := range places(66, 132, 143, 154) {
		d := disk.New(0, 0, 64, 1000)
		l := Open(d, 0, 0)
		for i := range 12 {
			appends(t, l, abort(uint32(i+1)))
		}
		l.Write()
		l.Sync()
		appends(t, l, abort(13))
		l.Write()
		appends(t, l, abort(14))
		l.Trim(66)
		tells(t, "trimmed", l, 154, 143, 132, 66)
		if d.First() != 64 || d.Pending() != 2 {
			t.Fatalf("the tape begins at %d, %d are pending", d.First(), d.Pending())
		}
		l.Trim(keep)
		is := within(keep, 66, 132)
		tells(t, "trimmed twice", l, 154, 143, 132, is)
		if d.First() != is/64*64 || d.Pending() != 3 || d.End() != 143 {
			t.Fatalf("Trim to %d: the tape goes from %d to %d, %d are pending", keep, d.First(), d.End(), d.Pending())
		}
	}
}

// TestScan: the records of bytes, from any place on, and cut off anywhere (P15.3, P15.4).
func TestScan(t *testing.T) {
	b := text(t, goodRecs()...)
	for _, at := range []int64{0, 1, 77, -1, -5, least, least + 1, 1 << 40, greatest - int64(len(b))} {
		scans(t, "all", b, at, goodRecs(), api.OK)
		scans(t, "none", nil, at, nil, api.OK)
		scans(t, "none", []byte{}, at, nil, api.OK)
	}
	for n := range len(b) {
		var whole []api.Rec
		size := 0
		for _, r := range goodRecs() {
			if size+rec.Size(r) > n {
				break
			}
			size += rec.Size(r)
			whole = append(whole, r)
		}
		want := api.ErrShort
		if size == n {
			want = api.OK
		}
		scans(t, "cut off", b[:n], 500, whole, want)
	}
}

// TestScanErrors: what is no frame, and what is no record, ends a scan; what stands ahead is told (P15.3).
func TestScanErrors(t *testing.T) {
	start := text(t, goodRecs()[0])
	turned := text(t, abort(5))
	turned[8] ^= 16
	wrong := []struct {
		what string
		b    []byte
		want api.Errno
	}{
		{"a byte", []byte{1}, api.ErrShort},
		{"a head without a payload", []byte{1, 0, 0, 0, 0, 0}, api.ErrShort},
		{"a length of 0", make([]byte, 6), api.ErrForm},
		{"too great a length", append([]byte{1, 2}, make([]byte, 600)...), api.ErrForm},
		{"a sum that is another one", turned, api.ErrSum},
		{"no kind", put(t, []byte{0}), api.ErrForm},
		{"a kind that is none", put(t, []byte{10, 1, 0, 0, 0}), api.ErrForm},
		{"too few bytes", put(t, []byte{api.RcAbort, 1, 0, 0}), api.ErrForm},
		{"too many bytes", put(t, []byte{api.RcAbort, 1, 0, 0, 0, 0}), api.ErrForm},
		{"no transaction", put(t, []byte{api.RcAbort, 0, 0, 0, 0}), api.ErrForm},
		{"a truth that is none", put(t, []byte{api.RcBegin, 1, 0, 0, 0, 1, 0, 0, 0, 0, 2}), api.ErrForm},
		{"too long a program", put(t, append([]byte{api.RcStart, 1, 0, 0, 0, 1, 2}, make([]byte, 505)...)), api.ErrForm},
		{"half a program", put(t, start[6:len(start)-4]), api.ErrForm},
		{"a payload of noughts", put(t, make([]byte, api.MaxPay)), api.ErrForm},
	}
	for _, w := range wrong {
		for n := range 3 {
			ahead := goodRecs()[:n]
			b := append(text(t, ahead...), w.b...)
			scans(t, w.what, b, 90, ahead, w.want)
			if w.want == api.ErrShort {
				continue
			}
			// What stands behind changes nothing: it is not asked.
			scans(t, w.what, append(b, text(t, goodRecs()...)...), 90, ahead, w.want)
		}
	}
}

// TestScanFar: places do not go round (P15.3).
func TestScanFar(t *testing.T) {
	b := text(t, abort(1), abort(2), abort(3))
	for _, at := range []int64{greatest, greatest - 1, greatest - 11, greatest - 21, greatest - 22, greatest - 32} {
		l, end, e := Scan(b, at)
		if len(l) != 3 || end != greatest || e != api.OK {
			t.Fatal(len(l), "records, the place behind them is", end, "error", e)
		}
		want := at
		for i, x := range l {
			if x.At != want || x.Rec.Txn != uint32(i+1) {
				t.Errorf("%d: record %d stands at %d; want %d", at, i, x.At, want)
			}
			if want > greatest-11 {
				want = greatest
			} else {
				want += 11
			}
		}
	}
}

// TestOwn: nothing that is handed in is kept or changed, and no two answers share anything.
func TestOwn(t *testing.T) {
	d := disk.New(0, 0, 64, 1000)
	l := Open(d, 0, 0)
	r := api.Rec{Kind: api.RcStart, Saga: 1, Prog: placing()}
	appends(t, l, r, r)
	if !rec.Same(r, api.Rec{Kind: api.RcStart, Saga: 1, Prog: placing()}) {
		t.Error("Append changed the record")
	}
	want := []api.Rec{{Kind: api.RcStart, Saga: 1, Prog: placing()}, {Kind: api.RcStart, Saga: 1, Prog: placing()}}
	r.Prog.Lines[0].Qty, r.Prog.Takes[0].Qty, r.Prog.Owes[0].Qty = 70, 71, 72
	l.Write()
	b := d.Bytes(0)
	scans(t, "changed behind Append", b, 0, want, api.OK)

	was := slices.Clone(b)
	x, _, _ := Scan(b, 0)
	if !slices.Equal(b, was) {
		t.Error("Scan changed the bytes")
	}
	clear(b)
	if !rec.Same(x[0].Rec, want[0]) || !rec.Same(x[1].Rec, want[1]) {
		t.Error("what was scanned went with the bytes")
	}
	p := &x[0].Rec.Prog
	p.Lines[0].Qty, p.Takes[0].Qty, p.Owes[0].Qty = 70, 71, 72
	_ = append(append(p.Lines, p.Lines...), p.Owes...)
	if !rec.Same(x[1].Rec, want[1]) {
		t.Error("two records share a list")
	}
	scans(t, "scanned again", was, 0, want, api.OK)
}

// TestNil: what a log that is nil tells.
func TestNil(t *testing.T) {
	var l *Log
	for _, r := range append(goodRecs(), badRecs()...) {
		if at, e := l.Append(r); at != 0 || e != api.ErrArg {
			t.Errorf("Append of nil: at %d, error %d", at, e)
		}
	}
	wants(t, "Write of nil", l.Write(), api.ErrArg)
	l.Sync()
	l.Trim(5)
	tells(t, "nil", l, 0, 0, 0, 0)
}

// TestNoDisk: a log that no call made, and logs on disks that are none, go on as on a tape that takes nothing.
func TestNoDisk(t *testing.T) {
	for _, at := range places() {
		for _, l := range []*Log{{}, Open(nil, at, at), Open(&disk.Disk{}, at, at), Open(disk.New(0, 0, 0, 0), at, at)} {
			tells(t, "none", l, 0, 0, 0, 0)
			wants(t, "nothing waits", l.Write(), api.OK)
			appends(t, l, abort(1))
			if l.Write() == api.OK {
				t.Error("a record was written on no disk")
			}
			l.Sync()
			l.Trim(at)
			tells(t, "none", l, 11, 0, 0, 0)
		}
	}
	l := Open(nil, 0, 0)
	appends(t, l, abort(1))
	wants(t, "nil takes no bytes", l.Write(), api.ErrArg)
}

// TestFrames: frames are gone through as far as is asked, and from the beginning each time.
func TestFrames(t *testing.T) {
	all := frames(append(text(t, abort(1), abort(2)), 9))
	for most := range 5 {
		n, wrong := 0, api.OK
		for f, e := range all {
			if n == most {
				break
			}
			n++
			wrong = e
			if e == api.OK && (len(f.pay) != 5 || f.size != 11) {
				t.Error(f)
			}
		}
		if n != min(most, 3) || (wrong == api.ErrShort) != (most > 2) {
			t.Errorf("%d frames of %d, error %d", n, most, wrong)
		}
	}
}
