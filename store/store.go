// Package store: images of a ledger on a disk, so that the last one that was made durable is there behind any fall (P12, P13, P15).
package store

import (
	"slices"

	"quotaledger/api"
	"quotaledger/image"
	"quotaledger/sum"
)

// Store is a disk, and what is known of it.
type Store struct {
	disk api.Disk
	sums sum.Table
	turn uint64 // that of the last image; it wraps around
	err  error  // what the disk said first: nothing is written behind that
}

// Open finds the last image that the disk has; if there is none, that is one without records, at the time 0.
func Open(d api.Disk) (*Store, image.Image, error) {
	s := &Store{disk: d}
	var last image.Image
	err := guard(func() (err error) {
		last, err = s.last()
		return err
	})
	if err != nil {
		return nil, image.Image{}, err
	}
	s.turn = last.Turn
	return s, last, nil
}

// Keep makes durable an image of these records; an error: it may be durable or not, and nothing is written from then on.
func (s *Store) Keep(time uint64, records func(tell func(image.Record))) error {
	return s.ask(func() error { return s.write(time, records) })
}

// Renew makes durable an image of these records too, and what was written ahead of it goes.
func (s *Store) Renew(time uint64, records func(tell func(image.Record))) error {
	return s.ask(func() error {
		if err := s.write(time, records); err != nil {
			return err
		}
		return s.sweep()
	})
}

// ask: behind its first error the disk is asked for nothing more.
func (s *Store) ask(job func() error) error {
	if s == nil {
		// That of a ledger that nobody opened.
		return api.ErrDown
	}
	if s.err == nil {
		s.err = guard(job)
	}
	return s.err
}

func (s *Store) write(time uint64, records func(tell func(image.Record))) error {
	s.turn++
	b := image.Write(&s.sums, s.turn, time, records)
	if err := s.disk.Write(name(s.turn), b); err != nil {
		return err
	}
	return s.disk.Sync()
}

// sweep: the file of the turn ahead goes. That is not done until the last image is durable: a fall could take both else.
func (s *Store) sweep() error {
	older := name(s.turn - 1)
	names, err := s.disk.Names()
	if err != nil || !slices.Contains(names, older) {
		return err
	}
	if err := s.disk.Remove(older); err != nil {
		return err
	}
	return s.disk.Sync()
}

// guard: a disk that panics, as one that is nil does, is down to us: no call may panic.
func guard(ask func() error) (err error) {
	defer func() {
		if recover() != nil {
			err = api.ErrDown
		}
	}()
	return ask()
}
