package quotaledger_test

import (
	"maps"
	"slices"

	"quotaledger/api"
)

// told is a call that writes, and that is not durable yet.
type told struct {
	kind string // write, append, remove
	name string
	data string
}

// fault is how a disk fails at one of the calls that write.
type fault struct {
	at    int   // behind so many of them; below 0: never
	says  error // at that call
	done  bool  // the call does what it was asked all the same
	stays bool  // the disk is down then: all calls say it, until it falls
}

// fallingDisk is a disk that fails, and that falls.
type fallingDisk struct {
	durable map[string]string
	now     map[string]string
	pending []told
	fault   fault
	down    bool
	calls   int // those that write, since the fault was set
	errors  int // how many errors it said since it was last opened over
	late    int // calls that write behind an error, since it was last opened over
}

func newFallingDisk() *fallingDisk {
	return &fallingDisk{durable: map[string]string{}, now: map[string]string{}, fault: fault{at: -1}}
}

// fails: one that is down stays so.
func (d *fallingDisk) fails(f fault) {
	if !d.down {
		d.fault, d.calls = f, 0
	}
}

// err is what the next call says, and whether it does what it is asked.
func (d *fallingDisk) err(writes bool) (error, bool) {
	was := d.down
	hit := writes && d.calls == d.fault.at
	if writes {
		d.calls++
		if d.errors > 0 {
			d.late++
		}
	}
	if !hit && !was {
		return nil, true
	}
	d.errors++
	d.down = was || d.fault.stays
	return d.fault.says, d.fault.done && !was
}

func apply(files map[string]string, o told) {
	switch o.kind {
	case "write":
		files[o.name] = o.data
	case "append":
		files[o.name] += o.data
	case "remove":
		delete(files, o.name)
	}
}

func (d *fallingDisk) tell(o told) error {
	err, does := d.err(true)
	if does {
		apply(d.now, o)
		d.pending = append(d.pending, o)
	} else if d.down {
		// Of the last thing that a disk was told ahead of its fall some may be there too.
		d.pending = append(d.pending, o)
	}
	return err
}

func (d *fallingDisk) Read(name string) ([]byte, error) {
	if err, _ := d.err(false); err != nil {
		return nil, err
	}
	s, ok := d.now[name]
	if !ok {
		return nil, api.ErrNone
	}
	return []byte(s), nil
}

func (d *fallingDisk) Names() ([]string, error) {
	if err, _ := d.err(false); err != nil {
		return nil, err
	}
	return slices.Sorted(maps.Keys(d.now)), nil
}

func (d *fallingDisk) put(kind, name string, data []byte) error {
	err := d.tell(told{kind, name, string(data)})
	spoil(data)
	return err
}

func (d *fallingDisk) Write(name string, data []byte) error { return d.put("write", name, data) }

func (d *fallingDisk) Append(name string, data []byte) error { return d.put("append", name, data) }

func (d *fallingDisk) Remove(name string) error {
	if _, ok := d.now[name]; !ok {
		return api.ErrNone
	}
	return d.tell(told{"remove", name, ""})
}

func (d *fallingDisk) Sync() error {
	err, does := d.err(true)
	if does {
		for _, o := range d.pending {
			apply(d.durable, o)
		}
		d.pending = nil
	}
	return err
}

// fall: of the i-th thing that is not durable yet so many bytes are kept as keeps says, of those that there are (below 0: it is lost).
func (d *fallingDisk) fall(keeps func(i, bytes int) int) {
	cut := map[string]int{}
	for i, o := range d.pending {
		n := keeps(i, len(o.data))
		if n < 0 || o.kind == "append" && cut[o.name] == 1 {
			cut[o.name] = 1
			continue
		}
		if n < len(o.data) {
			o.data, cut[o.name] = o.data[:n], 1
		}
		apply(d.durable, o)
	}
	d.pending = nil
	d.now = maps.Clone(d.durable)
	d.fault, d.down, d.calls = fault{at: -1}, false, 0
}

func lost(i, bytes int) int { return -1 }

func kept(i, bytes int) int { return bytes }
