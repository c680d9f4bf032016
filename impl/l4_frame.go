package impl

import "bytes"

// Numbers of frames.
const (
	FrmHello   = 1
	FrmWord    = 2
	FrmAll     = 255
	FrmHeadLen = 11
	FrmBodyLen = 9
	FrmLen     = 24
	FrmMaxNode = 3
	FrmMaxWay  = 9
)

// FrmHead is what a frame says of itself.
type FrmHead struct {
	Kind  int
	From  int
	To    int
	Way   int
	Boot  int
	Peer  int
	Epoch int
	Seq   int
}

// frmSort is one of the two sorts of heads.
type frmSort interface {
	ok() bool
}

// frmOrigin is what all heads have in common: who says it, and by which number.
type frmOrigin struct {
	from int
	boot int
	seq  int
}

func (o frmOrigin) ok() bool {
	return within(o.from, 0, FrmMaxNode) && within(o.boot, 1, sealMaxPair) && within(o.seq, 0, SealMaxSeq)
}

// frmHelloHead is the head of a hello, which says nothing but who it is from.
type frmHelloHead struct {
	frmOrigin
}

// frmWordHead is the head of a word.
type frmWordHead struct {
	frmOrigin
	to    int
	way   int
	peer  int
	epoch int
}

func (w frmWordHead) ok() bool {
	return w.frmOrigin.ok() && w.to != w.from && within(w.to, 0, FrmMaxNode) && within(w.way, 0, FrmMaxWay) &&
		within(w.peer, 0, sealMaxPair) && within(w.epoch, 0, sealMaxByte)
}

// frmSorted is a head as one of its sort; nil, if it is of neither.
func frmSorted(h FrmHead) frmSort {
	origin := frmOrigin{from: h.From, boot: h.Boot, seq: h.Seq}
	switch {
	case h.Kind == FrmWord:
		return frmWordHead{frmOrigin: origin, to: h.To, way: h.Way, peer: h.Peer, epoch: h.Epoch}
	case h.Kind == FrmHello && h.To == FrmAll && h.Way == FrmAll && h.Peer == 0 && h.Epoch == 0:
		return frmHelloHead{frmOrigin: origin}
	}
	return nil
}

// Fields of a head, by how many bytes they have.
type (
	frmByte int
	frmPair int
)

// frmFields has the fields of a head in the order in which they are written.
func frmFields(h FrmHead) []any {
	return []any{frmByte(h.Kind), frmByte(h.From), frmByte(h.To), frmByte(h.Way),
		frmPair(h.Boot), frmPair(h.Peer), frmByte(h.Epoch), frmPair(h.Seq)}
}

// frmField is a field's number, and how many bytes it has.
func frmField(field any) (int, int) {
	switch f := field.(type) {
	case frmByte:
		return int(f), 1
	case frmPair:
		return int(f), 2
	}
	return 0, 0
}

// frmHeadOf reads a head, ok or not.
func frmHeadOf(b []byte) FrmHead {
	var list [8]int
	at := 0
	// The fields of any head have the same sizes.
	for k, field := range frmFields(FrmHead{}) {
		_, size := frmField(field)
		list[k], _ = BytTake(b, at, size)
		at += size
	}
	return FrmHead{Kind: list[0], From: list[1], To: list[2], Way: list[3],
		Boot: list[4], Peer: list[5], Epoch: list[6], Seq: list[7]}
}

// FrmHeadOk says whether a head is ok.
func FrmHeadOk(h FrmHead) bool {
	sorted := frmSorted(h)
	return sorted != nil && sorted.ok()
}

// FrmHeadBytes writes a head.
func FrmHeadBytes(h FrmHead) []byte {
	if !FrmHeadOk(h) {
		return nil
	}
	var row bytRow
	for _, field := range frmFields(h) {
		n, size := frmField(field)
		row.lay(n, size)
	}
	return row.held
}

// FrmPut writes a frame.
func FrmPut(h FrmHead, shut []byte) []byte {
	if !FrmHeadOk(h) || len(shut) != FrmBodyLen+SealTagLen {
		return nil
	}
	return append(FrmHeadBytes(h), shut...)
}

// FrmTake reads a frame.
func FrmTake(b []byte) (FrmHead, []byte, bool) {
	if len(b) != FrmLen {
		return FrmHead{}, nil, false
	}
	h := frmHeadOf(b)
	if !FrmHeadOk(h) {
		return FrmHead{}, nil, false
	}
	return h, bytes.Clone(b[FrmHeadLen:]), true
}

// FrmFill makes a body of one length of a message, or of none.
func FrmFill(m []byte, real bool) []byte {
	if !BytMessage(m) || !real && len(m) > 0 {
		return nil
	}
	body := make([]byte, FrmBodyLen)
	if real {
		body[0] = byte(len(m) + 1)
		copy(body[1:], m)
	}
	return body
}

// FrmSpill reads a body: its message, whether there is one, and whether it is a body.
func FrmSpill(body []byte) ([]byte, bool, bool) {
	if len(body) != FrmBodyLen || body[0] > FrmBodyLen {
		return nil, false, false
	}
	// The first byte is the end of the message in the body, 0 if there is none.
	real := body[0] > 0
	m := body[1:max(1, body[0])]
	if !bytes.Equal(FrmFill(m, real), body) {
		return nil, false, false
	}
	return bytes.Clone(m), real, true
}
