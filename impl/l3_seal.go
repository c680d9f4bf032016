package impl

// Limits of seals.
const (
	SealMaxKey = 4294967295
	SealMaxSeq = 65535
	SealTagLen = 4
)

// What a key is of lies within these; they are bounds of one byte and of two.
const (
	sealMaxByte = 255
	sealMaxPair = 65535
)

// sealMill is a mixing, as far as it has come. It has 32 bits, so that all that
// it reckons is cut to them by itself.
type sealMill struct {
	x uint32
}

// mix is Mix of what stands so far and y, which stands there then.
func (s *sealMill) mix(y int) {
	x := s.x ^ uint32(y)
	x = x*69069 + 1
	x ^= x / 65536
	x = x*40503 + uint32(y) + 7
	s.x = x ^ x/8192
}

// sealSum hands numbers to a mixing, one behind the other.
func sealSum(mix func(y int), list ...int) {
	for _, y := range list {
		mix(y)
	}
}

// sealRaised is each byte as a number, with the same added to each.
func sealRaised(b []byte, more int) []int {
	list := make([]int, 0, len(b))
	for _, c := range b {
		list = append(list, more+int(c))
	}
	return list
}

// sealMay says whether something may be sealed.
func sealMay(key int, seq int, head []byte, body []byte) bool {
	return within(key, 0, SealMaxKey) && within(seq, 0, SealMaxSeq) && len(head) <= BytMaxRaw && len(body) <= BytMaxRaw
}

// sealHidden is the hidden body; of one that is hidden it is the body.
func sealHidden(key int, seq int, body []byte) []byte {
	start := sealMill{x: uint32(key)}
	start.mix(500 + seq)
	out := make([]byte, 0, len(body)+SealTagLen)
	for k, c := range body {
		mill := start
		mill.mix(200000 + k)
		out = append(out, c^byte(mill.x))
	}
	return out
}

// SealKey is the key of a tunnel.
func SealKey(secret int, from int, to int, boot int, peer int, epoch int) int {
	if !within(secret, 0, SealMaxKey) || !allUpTo(sealMaxByte, from, to, epoch) || !allUpTo(sealMaxPair, boot, peer) {
		return 0
	}
	mill := sealMill{x: uint32(secret)}
	sealSum(mill.mix, 1+from, 300+to, 1000+boot, 70000+peer, 140000+epoch, 9)
	return int(mill.x)
}

// SealTag is the sum under a key of a head and a body as it lies on the bus.
func SealTag(key int, seq int, head []byte, coded []byte) int {
	if !sealMay(key, seq, head, coded) {
		return 0
	}
	mill := sealMill{x: uint32(key)}
	sealSum(mill.mix, 300000+seq, 11)
	sealSum(mill.mix, 400000+len(head))
	sealSum(mill.mix, sealRaised(head, 1)...)
	sealSum(mill.mix, 500000+len(coded))
	sealSum(mill.mix, sealRaised(coded, 600)...)
	return int(mill.x)
}

// SealShut hides a body, and puts a tag behind it.
func SealShut(key int, seq int, head []byte, body []byte) []byte {
	if !sealMay(key, seq, head, body) {
		return nil
	}
	coded := sealHidden(key, seq, body)
	return append(coded, BytPut(SealTag(key, seq, head, coded), SealTagLen)...)
}

// SealOpen opens what was sealed.
func SealOpen(key int, seq int, head []byte, shut []byte) ([]byte, bool) {
	end := len(shut) - SealTagLen
	tag, ok := BytTake(shut, end, SealTagLen)
	if !ok {
		return nil, false
	}
	coded := shut[:end]
	// What may not be sealed has the tag 0, which must open nothing.
	if !sealMay(key, seq, head, coded) || tag != SealTag(key, seq, head, coded) {
		return nil, false
	}
	return sealHidden(key, seq, coded), true
}
