package store

import (
	"slices"
	"strconv"

	"quotaledger/image"
)

// files is how many there are. Images go into them by turns, so that one that is torn or lost never takes the last durable one with it.
const files = 2

// name is that of the file into which the image of a turn goes.
func name(turn uint64) string { return "ledger." + strconv.FormatUint(turn%files, 10) }

// last is the last image that the disk has.
func (s *Store) last() (image.Image, error) {
	names, err := s.disk.Names()
	if err != nil || !hasOurs(names) {
		return image.Image{}, err
	}
	// What another ledger wrote, and could not make durable, may be there to read and be lost yet: no answer may hang on such.
	if err := s.disk.Sync(); err != nil {
		return image.Image{}, err
	}
	var whole []image.Image
	for turn := range uint64(files) {
		if !slices.Contains(names, name(turn)) {
			continue
		}
		b, err := s.disk.Read(name(turn))
		if err != nil {
			return image.Image{}, err
		}
		if i, ok := image.Read(&s.sums, b); ok && name(i.Turn) == name(turn) {
			whole = append(whole, i)
		}
	}
	return latest(whole), nil
}

func hasOurs(names []string) bool {
	for turn := range uint64(files) {
		if slices.Contains(names, name(turn)) {
			return true
		}
	}
	return false
}

func latest(l []image.Image) image.Image {
	var last image.Image
	for k, i := range l {
		if k == 0 || behind(i.Turn, last.Turn) {
			last = i
		}
	}
	return last
}

// behind: does the turn come behind the other? They are near to each other, but the turns wrap around.
func behind(turn, other uint64) bool { return int64(turn-other) > 0 }
