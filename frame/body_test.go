package frame

import "testing"

func TestRoomOfABodyEndsWithIt(t *testing.T) {
	b := []byte{1, 6, 1, 5}
	body, err := requests().body(b)
	if err != nil || len(body) != 1 || cap(body) != 1 {
		t.Fatalf("body of %x = %x with room for %d, %v", b, body, cap(body), err)
	}
	if _ = append(body, 99); b[2] != 1 {
		t.Errorf("P2: what was put behind the body reached the bytes behind the frame: %x", b)
	}
}
