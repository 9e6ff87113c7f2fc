// Package frames is layer 2: a machine's frames (see shared/doc/02-frames.md).
package frames

import "imago/api"

// content is a frame's bytes: an array, so that a frame is copied, and cleared, as a value.
type content [api.FrameSize]byte

// Memory has frames.
type Memory struct {
	frames []content
}

// New is a memory of so many frames.
func New(n int) (*Memory, api.Errno) {
	if n < 1 || n > api.MaxFrames {
		return nil, api.ErrArg
	}
	return &Memory{frames: make([]content, n)}, api.OK
}

// Len is how many frames it has.
func (m *Memory) Len() int {
	if m == nil {
		return 0
	}
	return len(m.frames)
}

// has tells whether there is such a frame.
func (m *Memory) has(frame int) bool { return frame >= 0 && frame < m.Len() }

// place tells what is wrong with the place of a byte.
func (m *Memory) place(frame, at int) api.Errno {
	if !m.has(frame) {
		return api.ErrNone
	}
	if at < 0 || at >= api.FrameSize {
		return api.ErrArg
	}
	return api.OK
}

// Get gets a byte.
func (m *Memory) Get(frame, at int) (byte, api.Errno) {
	if e := m.place(frame, at); e != api.OK {
		return 0, e
	}
	return m.frames[frame][at], api.OK
}

// Set sets a byte.
func (m *Memory) Set(frame, at int, b byte) api.Errno {
	if e := m.place(frame, at); e != api.OK {
		return e
	}
	m.frames[frame][at] = b
	return api.OK
}

// Copy copies a frame.
func (m *Memory) Copy(from, to int) api.Errno {
	if !m.has(from) || !m.has(to) {
		return api.ErrNone
	}
	m.frames[to] = m.frames[from]
	return api.OK
}

// Clear clears a frame.
func (m *Memory) Clear(frame int) api.Errno {
	if !m.has(frame) {
		return api.ErrNone
	}
	m.frames[frame] = content{}
	return api.OK
}

// Page are a frame's bytes.
func (m *Memory) Page(frame int) (string, api.Errno) {
	if !m.has(frame) {
		return "", api.ErrNone
	}
	return string(m.frames[frame][:]), api.OK
}

// Load loads a frame: behind the bytes of s all others are 0.
func (m *Memory) Load(frame int, s string) api.Errno {
	if !m.has(frame) {
		return api.ErrNone
	}
	if len(s) > api.FrameSize {
		return api.ErrLong
	}
	var loaded content
	copy(loaded[:], s)
	m.frames[frame] = loaded
	return api.OK
}
