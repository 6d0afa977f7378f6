package wal

import (
	"bytes"
	"math/rand"
	"testing"

	"pledge/api"
	"pledge/disk"
	"pledge/rec"
)

// model is what a log must have: all records that were appended, with their places.
type model struct {
	all           []api.Entry
	written, sure int64
	keep          int64
}

// end is the place behind all records.
func (m *model) end() int64 {
	if len(m.all) == 0 {
		return 0
	}
	last := m.all[len(m.all)-1]
	return last.At + int64(rec.Size(last.Rec))
}

// from are the records from a place on, which is that of one of them, or behind all.
func (m *model) from(at int64) []api.Entry {
	for i, x := range m.all {
		if x.At >= at {
			return m.all[i:]
		}
	}
	return nil
}

// place is one of the records' places, or that behind all.
func (m *model) place(r *rand.Rand) int64 {
	if i := r.Intn(len(m.all) + 1); i < len(m.all) {
		return m.all[i].At
	}
	return m.end()
}

// append puts a record behind all.
func (m *model) append(t *testing.T, l *Log, x api.Rec) {
	t.Helper()
	at, e := l.Append(x)
	if at != m.end() || e != api.OK {
		t.Fatalf("at %d, error %d; want %d", at, e, m.end())
	}
	m.all = append(m.all, api.Entry{At: at, Rec: x})
}

// asks asks that what is on the tape is scanned, and that the log tells what the model says.
func (m *model) asks(t *testing.T, l *Log, d *disk.Disk) {
	t.Helper()
	tells(t, "model", l, m.end(), m.written, m.sure, m.keep)
	if d.End() != m.written || d.First() > m.keep {
		t.Fatalf("the tape goes from %d to %d; written are %d, kept from %d on", d.First(), d.End(), m.written, m.keep)
	}
	var want []api.Rec
	for _, x := range m.from(m.keep) {
		if x.At < m.written {
			want = append(want, x.Rec)
		}
	}
	scans(t, "the tape", d.Bytes(m.keep), m.keep, want, api.OK)
}

// crash asks that a disk that crashed has a beginning of all records, and goes on behind it.
func (m *model) crash(t *testing.T, d *disk.Disk) *Log {
	t.Helper()
	b := d.Bytes(m.keep)
	l, end, e := Scan(b, m.keep)
	if end < m.sure || end > m.written || (e == api.OK) != (end == d.End()) || e != api.OK && e != api.ErrShort {
		t.Fatalf("scanned up to %d of %d, error %d; sure were %d, written %d", end, d.End(), e, m.sure, m.written)
	}
	kept := m.from(m.keep)
	for i, x := range l {
		if i >= len(kept) || x.At != kept[i].At || !rec.Same(x.Rec, kept[i].Rec) {
			t.Fatalf("record %d behind a crash is %v", i, x)
		}
	}
	if len(l) < len(kept) && bytes.HasPrefix(b[end-m.keep:], text(t, kept[len(l)].Rec)) {
		t.Fatalf("a record at %d is whole, and was not scanned", end)
	}
	m.all = m.all[:len(m.all)-len(kept)+len(l)]
	m.written, m.sure = end, end
	return Open(d, end, m.keep)
}

// TestCrashes: whatever is done, and whatever crashes keep, the log has a beginning of what it had, with all that was sure (P15.4).
func TestCrashes(t *testing.T) {
	for seed := range int64(60) {
		r := rand.New(rand.NewSource(seed))
		d := disk.New(0, 0, 64, 1<<16)
		l, m := Open(d, 0, 0), &model{}
		for range 150 {
			switch r.Intn(9) {
			case 0, 1, 2, 3:
				m.append(t, l, goodRecs()[r.Intn(len(goodRecs()))])
			case 4, 5:
				wants(t, "write", l.Write(), api.OK)
				m.written = m.end()
			case 6:
				l.Sync()
				m.sure = m.written
			case 7:
				at := m.place(r)
				l.Trim(at)
				m.keep = within(at, m.keep, m.sure)
			case 8:
				d.Crash(r.Intn(d.Pending()+2), r.Intn(120))
				l = m.crash(t, d)
			}
			m.asks(t, l, d)
		}
	}
}

// TestTears: of records in three writes, the first one sure, each tear keeps as many as it has whole (P15.4).
func TestTears(t *testing.T) {
	all := append([]api.Rec{abort(1), abort(2)}, goodRecs()...)
	last := len(text(t, goodRecs()...))
	for keep := range 4 {
		for tear := range last + 2 {
			d := disk.New(0, 0, 64, 1000)
			l := Open(d, 0, 0)
			appends(t, l, all[0])
			l.Write()
			l.Sync()
			appends(t, l, all[1])
			l.Write()
			appends(t, l, all[2:]...)
			l.Write()
			d.Crash(keep, tear)
			left := 22 + last
			switch keep {
			case 0:
				left = 11 + min(tear, 11)
			case 1:
				left = 22 + min(tear, last)
			}
			n := 0
			for n < len(all) && rec.Size(all[n]) <= left {
				left -= rec.Size(all[n])
				n++
			}
			e := api.OK
			if left > 0 {
				e = api.ErrShort
			}
			scans(t, "torn", d.Bytes(0), 0, all[:n], e)
		}
	}
}
