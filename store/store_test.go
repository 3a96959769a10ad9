package store

import (
	"errors"
	"maps"
	"slices"
	"strings"
	"testing"

	"quotaledger/api"
	"quotaledger/image"
)

// logDisk tells what it was asked, and says an error, or panics, at one call.
type logDisk struct {
	files  map[string][]byte
	log    []string
	at     int // the call that says the error; below 0: none
	says   error
	panics bool
}

func newDisk() *logDisk { return &logDisk{files: map[string][]byte{}, at: -1} }

func (d *logDisk) call(what string) error {
	d.log = append(d.log, what)
	if len(d.log)-1 != d.at {
		return nil
	}
	if d.panics {
		panic("the disk")
	}
	return d.says
}

func (d *logDisk) Read(name string) ([]byte, error) {
	if err := d.call("read " + name); err != nil {
		return nil, err
	}
	return slices.Clone(d.files[name]), nil
}

func (d *logDisk) Write(name string, data []byte) error {
	if err := d.call("write " + name); err != nil {
		return err
	}
	d.files[name] = slices.Clone(data)
	// What a disk is handed is its own: nothing may hang on it behind the call.
	clear(data)
	return nil
}

func (d *logDisk) Append(name string, data []byte) error { return d.call("append " + name) }

func (d *logDisk) Remove(name string) error {
	if err := d.call("remove " + name); err != nil {
		return err
	}
	if _, ok := d.files[name]; !ok {
		return api.ErrNone
	}
	delete(d.files, name)
	return nil
}

func (d *logDisk) Names() ([]string, error) {
	if err := d.call("names"); err != nil {
		return nil, err
	}
	return slices.Sorted(maps.Keys(d.files)), nil
}

func (d *logDisk) Sync() error { return d.call("sync") }

func open(t *testing.T, d *logDisk) (*Store, image.Image) {
	t.Helper()
	s, i, err := Open(d)
	if err != nil || s == nil {
		t.Fatalf("P5: Open = %v, %v", s, err)
	}
	return s, i
}

func none(func(image.Record)) {}

func keep(t *testing.T, s *Store, time uint64) {
	t.Helper()
	if err := s.Keep(time, none); err != nil {
		t.Fatalf("P12: Keep = %v", err)
	}
}

func renew(t *testing.T, s *Store, time uint64) {
	t.Helper()
	if err := s.Renew(time, none); err != nil {
		t.Fatalf("P15: Renew = %v", err)
	}
}

func (d *logDisk) wantLog(t *testing.T, what string, want ...string) {
	t.Helper()
	if !slices.Equal(d.log, want) {
		t.Errorf("%s: the disk was asked: %s; want: %s", what, strings.Join(d.log, ", "), strings.Join(want, ", "))
	}
	d.log = nil
}

func TestImagesGoIntoTheFilesByTurns(t *testing.T) {
	d := newDisk()
	s, i := open(t, d)
	if i.Turn != 0 || i.Time != 0 || i.Records != nil {
		t.Errorf("P5: an empty disk has %+v", i)
	}
	d.wantLog(t, "an empty disk", "names")
	keep(t, s, 5)
	keep(t, s, 6)
	keep(t, s, 7)
	d.wantLog(t, "P12", "write ledger.1", "sync", "write ledger.0", "sync", "write ledger.1", "sync")
	s, i = open(t, d)
	if i.Time != 7 {
		t.Errorf("P13: the last image is %+v", i)
	}
	d.wantLog(t, "P13: ahead of reading all is made durable", "names", "sync", "read ledger.0", "read ledger.1")
	keep(t, s, 8)
	d.wantLog(t, "opened anew", "write ledger.0", "sync")
}

// TestATornFileIsWrittenNext: so the whole one stays until another is whole.
func TestATornFileIsWrittenNext(t *testing.T) {
	for torn, want := range map[string]uint64{"ledger.0": 5, "ledger.1": 6} {
		d := newDisk()
		s, _ := open(t, d)
		keep(t, s, 5)
		keep(t, s, 6)
		d.files[torn] = d.files[torn][:9]
		s, i := open(t, d)
		if i.Time != want {
			t.Errorf("P13: with %s torn the last image is %+v", torn, i)
		}
		d.log = nil
		keep(t, s, 9)
		d.wantLog(t, "P13", "write "+torn, "sync")
	}
}

func TestOtherFilesAreLeftAlone(t *testing.T) {
	d := newDisk()
	d.files["ledger"] = []byte("mine")
	d.files["ledger.2"] = []byte("mine")
	s, i := open(t, d)
	if i.Records != nil || i.Time != 0 {
		t.Errorf("P5: other files are read as %+v", i)
	}
	d.wantLog(t, "other files", "names")
	keep(t, s, 1)
	renew(t, s, 2)
	if string(d.files["ledger"]) != "mine" || string(d.files["ledger.2"]) != "mine" || len(d.files) != 3 {
		t.Errorf("other files are now %q", d.files)
	}
}

func TestFilesThatAreNoImages(t *testing.T) {
	d := newDisk()
	s, _ := open(t, d)
	keep(t, s, 5)
	for _, b := range [][]byte{nil, {0}, {255}, make([]byte, 25), []byte("something else that nobody wrote")} {
		_, i := open(t, &logDisk{at: -1, files: map[string][]byte{"ledger.0": b, "ledger.1": d.files["ledger.1"]}})
		if i.Time != 5 {
			t.Errorf("P13: beside %x the image is %+v", b, i)
		}
		_, i = open(t, &logDisk{at: -1, files: map[string][]byte{"ledger.0": b, "ledger.1": b}})
		if i.Time != 0 || i.Turn != 0 {
			t.Errorf("P13: %x twice is read as %+v", b, i)
		}
	}
	// An image in the file of another turn: the next would be written over it.
	if _, i := open(t, &logDisk{at: -1, files: map[string][]byte{"ledger.0": d.files["ledger.1"]}}); i.Turn != 0 || i.Time != 0 {
		t.Errorf("P13: an image in another's file is read as %+v", i)
	}
}

func TestTurnsWrapAround(t *testing.T) {
	for _, write := range []func(*testing.T, *Store, uint64){keep, renew} {
		d := newDisk()
		s, _ := open(t, d)
		s.turn = api.Never - 2
		for time := range uint64(5) {
			write(t, s, time)
			var i image.Image
			if s, i = open(t, d); i.Time != time {
				t.Errorf("P13: at turn %d the last image is %+v, want that of the time %d", s.turn, i, time)
			}
		}
		if s.turn != 2 {
			t.Errorf("five turns behind NEVER - 2 is %d", s.turn)
		}
	}
}

// TestRenewRemovesTheOlderFile: behind the Sync of the new image, and the removal is made durable too; if there is none, nothing is removed.
func TestRenewRemovesTheOlderFile(t *testing.T) {
	d := newDisk()
	s, _ := open(t, d)
	d.log = nil
	renew(t, s, 5)
	d.wantLog(t, "P15: over an empty disk", "write ledger.1", "sync", "names")
	renew(t, s, 6)
	d.wantLog(t, "P15: behind another", "write ledger.0", "sync", "names", "remove ledger.1", "sync")
	keep(t, s, 7)
	keep(t, s, 8)
	d.log = nil
	renew(t, s, 9)
	d.wantLog(t, "P15: behind two images", "write ledger.1", "sync", "names", "remove ledger.0", "sync")
	s, i := open(t, d)
	if i.Time != 9 || len(d.files) != 1 {
		t.Errorf("P15: the last image is %+v, and there are the files %q", i, slices.Sorted(maps.Keys(d.files)))
	}
	d.log = nil
	keep(t, s, 10)
	d.wantLog(t, "P13: the one that there is is not written over", "write ledger.0", "sync")
}

// TestRenewOverFilesThatAreTorn: they go as well.
func TestRenewOverFilesThatAreTorn(t *testing.T) {
	for _, files := range [][]string{{"ledger.0"}, {"ledger.1"}, {"ledger.0", "ledger.1"}} {
		d := newDisk()
		for _, name := range files {
			d.files[name] = []byte("torn")
		}
		s, _ := open(t, d)
		renew(t, s, 5)
		if len(d.files) != 1 {
			t.Errorf("P15: over %q torn there are the files %q", files, d.files)
		}
		if _, i := open(t, d); i.Time != 5 {
			t.Errorf("P15: over %q torn the last image is %+v", files, i)
		}
	}
}

// wantFailure: the disk fails at one call of the job: that is told, and nothing is written behind it.
func wantFailure(t *testing.T, at int, panics bool, job func(*Store) error) {
	t.Helper()
	d := newDisk()
	s, _ := open(t, d)
	keep(t, s, 4)
	keep(t, s, 5)
	says := errors.New("of no number")
	d.log, d.at, d.says, d.panics = nil, at, says, panics
	want := says
	if panics {
		want = api.ErrDown
	}
	if err := job(s); err != want {
		t.Errorf("P12: over a disk that fails at call %d: %v, want %v", at, err, want)
	}
	for range 2 {
		if err := s.Keep(7, none); err != want {
			t.Errorf("P12: Keep behind an error at call %d = %v, want %v", at, err, want)
		}
		if err := s.Renew(7, none); err != want {
			t.Errorf("P12: Renew behind an error at call %d = %v, want %v", at, err, want)
		}
	}
	if len(d.log) != at+1 {
		t.Errorf("P12: behind an error at call %d the disk was asked: %s", at, strings.Join(d.log[at+1:], ", "))
	}
	d.at = -1
	if _, i := open(t, d); i.Time != 5 && i.Time != 6 {
		t.Errorf("P13: behind an error at call %d the last image is %+v", at, i)
	}
}

func TestBehindAnErrorNothingIsWritten(t *testing.T) {
	for _, panics := range []bool{false, true} {
		for at := range 2 {
			wantFailure(t, at, panics, func(s *Store) error { return s.Keep(6, none) })
		}
		for at := range 5 {
			wantFailure(t, at, panics, func(s *Store) error { return s.Renew(6, none) })
		}
	}
}

func TestOpenSaysWhatTheDiskSays(t *testing.T) {
	says := errors.New("of no number")
	for at := range 4 {
		for _, panics := range []bool{false, true} {
			d := newDisk()
			s, _ := open(t, d)
			keep(t, s, 5)
			keep(t, s, 6)
			d.log, d.at, d.says, d.panics = nil, at, says, panics
			want := says
			if panics {
				want = api.ErrDown
			}
			if s, i, err := Open(d); s != nil || err != want || i.Time != 0 || i.Turn != 0 || i.Records != nil {
				t.Errorf("P1, P5: Open over a disk that fails at call %d = %v, %+v, %v", at, s, i, err)
			}
			if len(d.log) != at+1 {
				t.Errorf("P5: behind an error the disk was asked: %s", strings.Join(d.log[at+1:], ", "))
			}
		}
	}
}

func TestAStoreThatNobodyOpened(t *testing.T) {
	var s *Store
	if err := s.Keep(1, none); err != api.ErrDown {
		t.Errorf("P1: Keep without a disk = %v", err)
	}
	if err := s.Renew(1, none); err != api.ErrDown {
		t.Errorf("P1: Renew without a disk = %v", err)
	}
}
