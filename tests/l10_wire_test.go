package tests

import (
	"encoding/binary"
	"math"
	"slices"
	"testing"

	"loop.example/g00708/impl"
)

const (
	maxSeals   = 48
	letterByte = 76
	sumEnd     = 251
)

func letter(from int64, to int64, seals ...impl.Seal) impl.Letter {
	return impl.Letter{From: from, To: to, Seals: seals}
}

// plainLetter has seals that differ from one another in each of their bytes.
func plainLetter(count int) impl.Letter {
	l := letter(3, 1)
	for i := range int64(count) {
		l.Seals = append(l.Seals, seal(258+i, i%16, 16909060+16843009*i))
	}
	return l
}

// greatestLetter has no number that could be greater.
func greatestLetter(count int) impl.Letter {
	return letter(15, 15, slices.Repeat([]impl.Seal{seal(maxRounds, 15, tagEnd-1)}, count)...)
}

// leastLetter has no number that could be less.
func leastLetter(count int) impl.Letter {
	return letter(0, 0, slices.Repeat([]impl.Seal{seal(1, 0, 0)}, count)...)
}

func cloneLetter(l impl.Letter) impl.Letter {
	l.Seals = slices.Clone(l.Seals)
	return l
}

func sameLetter(a impl.Letter, b impl.Letter) bool {
	return a.From == b.From && a.To == b.To && slices.Equal(a.Seals, b.Seals)
}

func letterWant(l impl.Letter) bool {
	wrong := func(s impl.Seal) bool {
		return s.Round <= 0 || s.Round > maxRounds || s.Node < 0 || s.Node > 15 || s.Tag < 0 || s.Tag >= tagEnd
	}
	if l.From < 0 || l.To < 0 || l.From >= 16 || l.To >= 16 {
		return false
	}
	return len(l.Seals) <= maxSeals && !slices.ContainsFunc(l.Seals, wrong)
}

// sumWant takes the modulus at each step, and so never comes to a number that is greater than a byte and the modulus.
func sumWant(b []byte) byte {
	sum := 0
	for _, each := range b {
		sum += int(each)
		for sum >= sumEnd {
			sum -= sumEnd
		}
	}
	return byte(sum)
}

// summed puts the sum behind bytes.
func summed(b ...byte) []byte { return append(slices.Clone(b), sumWant(b)) }

// resummed puts another sum in the place of the last byte.
func resummed(b []byte) []byte { return summed(b[:len(b)-1]...) }

// written is a letter as bytes, right or wrong: of each number those bytes that there is room for.
func written(l impl.Letter) []byte {
	b := []byte{letterByte, byte(l.From), byte(l.To), byte(len(l.Seals))}
	for _, s := range l.Seals {
		b = binary.BigEndian.AppendUint16(b, uint16(s.Round))
		b = append(b, byte(s.Node))
		b = binary.BigEndian.AppendUint32(b, uint32(s.Tag))
	}
	return summed(b...)
}

func packWant(l impl.Letter) ([]byte, bool) {
	if !letterWant(l) {
		return nil, false
	}
	return written(l), true
}

// toldBy is the letter that bytes tell, as many as it needs.
func toldBy(b []byte) impl.Letter {
	l := letter(int64(b[1]), int64(b[2]))
	for i := range int(b[3]) {
		at := b[4+7*i:]
		l.Seals = append(l.Seals, seal(int64(binary.BigEndian.Uint16(at)), int64(at[2]), int64(binary.BigEndian.Uint32(at[3:]))))
	}
	return l
}

func readWant(b []byte) int64 {
	if len(b) == 0 {
		return impl.WrShort
	}
	if b[0] != letterByte {
		return impl.WrHead
	}
	if len(b) < 5 {
		return impl.WrShort
	}
	if more := len(b) - 5 - 7*int(b[3]); more < 0 {
		return impl.WrShort
	} else if more > 0 {
		return impl.WrLong
	}
	if !slices.Equal(resummed(b), b) {
		return impl.WrSum
	}
	if !letterWant(toldBy(b)) {
		return impl.WrWrong
	}
	return impl.WrOk
}

// checkRead also says, beside the reckoning, what the code must be; what is read without a fault must be packed to the same bytes.
func checkRead(t *testing.T, b []byte, code int64) {
	t.Helper()
	want := impl.Letter{}
	if code == impl.WrOk {
		want = toldBy(b)
	}
	got, gotCode := impl.ReadLetter(b)
	if gotCode != code || readWant(b) != code || !sameLetter(got, want) {
		t.Fatalf("ReadLetter(%v) = %+v, %d, want %+v, %d", b, got, gotCode, want, code)
	}
	if code != impl.WrOk {
		return
	}
	if again, is := impl.PackLetter(got); !is || !slices.Equal(again, b) {
		t.Fatalf("%v was read as %+v, which is packed to %v, %v", b, got, again, is)
	}
}

// checkBytes leaves the code to the reckoning.
func checkBytes(t *testing.T, b []byte) {
	t.Helper()
	checkRead(t, b, readWant(b))
}

// checkLetter holds all three functions against a reckoning of the tests' own; a right letter must be read again from its bytes.
func checkLetter(t *testing.T, l impl.Letter, ok bool) {
	t.Helper()
	if got := impl.LetterOk(l); got != ok || letterWant(l) != ok {
		t.Fatalf("LetterOk(%+v) = %v, want %v", l, got, ok)
	}
	want, _ := packWant(l)
	got, is := impl.PackLetter(l)
	if is != ok || !slices.Equal(got, want) {
		t.Fatalf("PackLetter(%+v) = %v, %v, want %v, %v", l, got, is, want, ok)
	}
	if !ok {
		return
	}
	if read, code := impl.ReadLetter(got); code != impl.WrOk || !sameLetter(read, l) {
		t.Fatalf("%+v was packed to %v, which is read as %+v, %d", l, got, read, code)
	}
	checkRead(t, got, impl.WrOk)
}

// checkPacked also says what the bytes must be.
func checkPacked(t *testing.T, l impl.Letter, b ...byte) {
	t.Helper()
	if got, is := impl.PackLetter(l); !is || !slices.Equal(got, b) {
		t.Fatalf("PackLetter(%+v) = %v, %v, want %v", l, got, is, b)
	}
	checkLetter(t, l, true)
	checkRead(t, b, impl.WrOk)
}

func TestLetterLimits(t *testing.T) {
	if impl.MaxSeals != maxSeals {
		t.Errorf("MaxSeals = %d", impl.MaxSeals)
	}
	for i, code := range []int64{impl.WrOk, impl.WrShort, impl.WrHead, impl.WrLong, impl.WrSum, impl.WrWrong} {
		if code != int64(i) {
			t.Errorf("the code %d is %d", i, code)
		}
	}
}

func TestOrdinaryLetters(t *testing.T) {
	checkPacked(t, letter(0, 0), 76, 0, 0, 0, 76)
	checkPacked(t, letter(0, 1), 76, 0, 1, 0, 77)
	checkPacked(t, letter(2, 0), 76, 2, 0, 0, 78)
	checkPacked(t, letter(15, 15), 76, 15, 15, 0, 106)
	checkPacked(t, letter(3, 1, seal(258, 2, 16909060)), 76, 3, 1, 1, 1, 2, 2, 1, 2, 3, 4, 96)
	checkPacked(t, letter(0, 0, seal(1, 0, 0)), 76, 0, 0, 1, 0, 1, 0, 0, 0, 0, 0, 78)
	// 76, 15, 15, 1, 3, 232, 15, 127, 255, 255 and 254 are 1248, which is 4 times 251, and 244.
	checkPacked(t, letter(15, 15, seal(maxRounds, 15, tagEnd-1)), 76, 15, 15, 1, 3, 232, 15, 127, 255, 255, 254, 244)
	checkPacked(t, letter(7, 8, seal(255, 1, 255), seal(256, 2, 256)),
		76, 7, 8, 2, 0, 255, 1, 0, 0, 0, 255, 1, 0, 2, 0, 0, 1, 0, 106)
	checkPacked(t, letter(1, 2, seal(3, 4, 5), seal(3, 4, 5), seal(2, 9, 65536)),
		76, 1, 2, 3, 0, 3, 4, 0, 0, 0, 5, 0, 3, 4, 0, 0, 0, 5, 0, 2, 9, 0, 1, 0, 0, 118)
}

// A letter takes any Seals in range, right for some keys or not, in any order, and one of them twice, too.
func TestSealsAreSentAsTheyAre(t *testing.T) {
	sealed, _ := impl.SealOf(fourKeys(), 1, 2)
	checkPacked(t, letter(5, 5, sealed), 76, 5, 5, 1, 0, 1, 2, 6, 142, 59, 248, 43)
	sealed.Tag++
	checkPacked(t, letter(5, 5, sealed), 76, 5, 5, 1, 0, 1, 2, 6, 142, 59, 249, 44)
	list := []impl.Seal{seal(9, 3, 4), seal(1, 15, 0), seal(9, 3, 4), seal(9, 2, 4), seal(1000, 0, 7), seal(9, 3, 5)}
	checkLetter(t, letter(4, 9, list...), true)
	slices.Reverse(list)
	checkLetter(t, letter(4, 9, list...), true)
}

// Every count of Seals up to a few more than MaxSeals, and some that are far more, of which a byte could not tell how many they are.
func TestHowManySeals(t *testing.T) {
	for count := range maxSeals + 5 {
		for _, l := range []impl.Letter{plainLetter(count), leastLetter(count), greatestLetter(count)} {
			if count >= maxSeals+1 {
				checkLetter(t, l, false)
				checkRead(t, written(l), impl.WrWrong)
				continue
			}
			checkLetter(t, l, true)
			b, _ := impl.PackLetter(l)
			if len(b) != 5+7*count {
				t.Fatalf("%d Seals are %d bytes", count, len(b))
			}
		}
	}
	for _, count := range []int{100, 127, 128, 255, 256, 257, 256 + maxSeals, 512, 1000, 65536, 1 << 20} {
		checkLetter(t, leastLetter(count), false)
		checkLetter(t, greatestLetter(count), false)
	}
}

// What is behind the last Seal is not sent, and neither spoils it nor is missed.
func TestSpareRoomIsNoSeal(t *testing.T) {
	list := append(plainLetter(3).Seals, seal(0, -1, -1), seal(1, 2, 3))
	checkLetter(t, letter(1, 2, list...), false)
	checkLetter(t, letter(1, 2, list[:3]...), true)
	checkLetter(t, letter(1, 2, leastLetter(maxSeals + 1).Seals[:maxSeals]...), true)
	checkPacked(t, impl.Letter{From: 1, To: 2, Seals: list[:0]}, 76, 1, 2, 0, 79)
}

func TestNoSealsAndNil(t *testing.T) {
	for _, list := range [][]impl.Seal{nil, {}} {
		checkPacked(t, impl.Letter{Seals: list}, 76, 0, 0, 0, 76)
		checkPacked(t, impl.Letter{From: 15, To: 4, Seals: list}, 76, 15, 4, 0, 95)
		checkLetter(t, impl.Letter{From: 16, Seals: list}, false)
		checkLetter(t, impl.Letter{To: -1, Seals: list}, false)
	}
}

// An edge is a number and whether it is in its range. Of those that are not, some would be in it as bytes.
type edge struct {
	n  int64
	ok bool
}

func nodeEdges() []edge {
	return append(farEdges(),
		edge{0, true}, edge{1, true}, edge{14, true}, edge{15, true},
		edge{-1, false}, edge{-2, false}, edge{-15, false}, edge{-16, false}, edge{16, false}, edge{17, false},
		edge{255, false}, edge{256, false}, edge{257, false}, edge{-255, false}, edge{-256, false})
}

func roundEdges() []edge {
	return append(farEdges(),
		edge{1, true}, edge{2, true}, edge{255, true}, edge{256, true}, edge{257, true}, edge{999, true}, edge{1000, true},
		edge{0, false}, edge{-1, false}, edge{-2, false}, edge{1001, false}, edge{1002, false}, edge{1024, false},
		edge{65535, false}, edge{65536, false}, edge{65537, false}, edge{-65535, false}, edge{-1000, false})
}

func tagEdges() []edge {
	list := []edge{{0, true}, {tagEnd - 1, true}, {tagEnd - 2, true}, {1 << 30, true},
		{-1, false}, {-2, false}, {-tagEnd, false}, {tagEnd, false}, {tagEnd + 1, false}, {tagEnd + 2, false}, {2 * tagEnd, false}}
	for bit := range 31 {
		list = append(list, edge{1 << bit, true}, edge{-1 << bit, false})
	}
	return append(append(list, farEdges()...), edge{1<<31 - 2, true}, edge{1<<24 - 1, true}, edge{1<<16 - 1, true}, edge{255, true})
}

// farEdges are in no range of the chapter.
func farEdges() []edge {
	list := []edge{}
	for _, n := range []int64{1 << 32, 1<<32 + 1, 1<<32 + 5, 1<<40 + 3, maxNs, maxOff, 1 << 62, math.MaxInt64 - 1, math.MaxInt64} {
		list = append(list, edge{n, false}, edge{-n, false})
	}
	return append(list, edge{math.MinInt64, false})
}

func TestFromAndTo(t *testing.T) {
	for _, from := range nodeEdges() {
		for _, to := range nodeEdges() {
			for _, count := range []int{0, 1, 2, maxSeals} {
				l := plainLetter(count)
				l.From, l.To = from.n, to.n
				checkLetter(t, l, from.ok && to.ok)
			}
		}
	}
}

// Of the bytes of From and To just those below MaxNodes are right.
func TestFromAndToAsBytes(t *testing.T) {
	for from := range 256 {
		for to := range 256 {
			code := int64(impl.WrOk)
			if from > 15 || to > 15 {
				code = impl.WrWrong
			}
			b := []byte{letterByte, byte(from), byte(to), 0}
			checkRead(t, summed(b...), code)
			b[3] = 1
			checkRead(t, summed(append(b, 0, 1, 0, 0, 0, 0, 0)...), code)
		}
	}
}

// spots are the places of Seals at which a wrong one is put: the first, the last, and between.
func spots(count int) []int {
	list := []int{0, count / 2, count - 1}
	slices.Sort(list)
	return slices.Compact(list)
}

// A wrong number of a Seal spoils the letter, at the first one as at the last one.
func TestEachNumberOfSeals(t *testing.T) {
	for _, count := range []int{1, 2, 3, maxSeals - 1, maxSeals} {
		for _, spot := range spots(count) {
			for _, put := range []struct {
				edges []edge
				into  func(s *impl.Seal, n int64)
			}{
				{roundEdges(), func(s *impl.Seal, n int64) { s.Round = n }},
				{nodeEdges(), func(s *impl.Seal, n int64) { s.Node = n }},
				{tagEdges(), func(s *impl.Seal, n int64) { s.Tag = n }},
			} {
				for _, e := range put.edges {
					for _, l := range []impl.Letter{plainLetter(count), leastLetter(count), greatestLetter(count)} {
						put.into(&l.Seals[spot], e.n)
						checkLetter(t, l, e.ok)
						checkBytes(t, written(l))
					}
				}
			}
		}
	}
}

// Each two edges of a Seal together, and all three.
func TestNumbersOfSealsTogether(t *testing.T) {
	rounds, nodes, tags := roundEdges(), nodeEdges(), tagEdges()
	for _, round := range rounds {
		for _, node := range nodes {
			checkLetter(t, letter(1, 2, seal(round.n, node.n, 9)), round.ok && node.ok)
			for i := 0; i < len(tags); i += 5 {
				checkLetter(t, letter(1, 2, seal(round.n, node.n, tags[i].n)), round.ok && node.ok && tags[i].ok)
			}
		}
		for _, tag := range tags {
			checkLetter(t, letter(1, 2, seal(round.n, 9, tag.n)), round.ok && tag.ok)
		}
	}
	for _, node := range nodes {
		for _, tag := range tags {
			checkLetter(t, letter(1, 2, seal(9, node.n, tag.n)), node.ok && tag.ok)
		}
	}
}

// Every Round that two bytes tell, every Node that one tells, and Tags by each of their bytes.
func TestNumbersOfSealsAsBytes(t *testing.T) {
	code := func(ok bool) int64 {
		if ok {
			return impl.WrOk
		}
		return impl.WrWrong
	}
	for round := range int64(65536) {
		checkRead(t, written(letter(1, 2, seal(round, 3, 4))), code(round >= 1 && round <= maxRounds))
	}
	for node := range int64(256) {
		checkRead(t, written(letter(1, 2, seal(9, node, 4))), code(node <= 15))
	}
	for _, tag := range []int64{tagEnd - 1, tagEnd, tagEnd + 1, 1<<32 - 1, 1<<32 - 2, 3 << 30} {
		checkRead(t, written(letter(1, 2, seal(9, 3, tag))), code(tag < tagEnd))
	}
	for shift := 0; shift < 32; shift += 8 {
		for each := range int64(256) {
			checkRead(t, written(letter(1, 2, seal(9, 3, each<<shift))), code(each<<shift < tagEnd))
			checkRead(t, written(letter(1, 2, seal(9, 3, 1<<31-1-each<<shift&(1<<31-1)))), code(each<<shift&(1<<31-1) > 0))
		}
	}
}

// Letters of which the bytes, added, come to each number from 76 to far more than 251: at 250 the sum is 250, at 251 it is 0.
func TestSumsOfLetters(t *testing.T) {
	met := map[byte]bool{}
	for more := range int64(600) {
		l := letter(0, 0, seal(1, 0, 0))
		// The bytes come to 78, and to more by the three lower bytes of the Tag.
		l.Seals[0].Tag = min(more, 255) + min(max(more-255, 0), 255)<<8 + max(more-510, 0)<<16
		b, _ := impl.PackLetter(l)
		if want := (78 + more) % sumEnd; len(b) != 12 || int64(b[11]) != want {
			t.Fatalf("%+v is packed to %v, want the sum %d", l, b, want)
		}
		checkLetter(t, l, true)
		met[b[11]] = true
	}
	if len(met) != sumEnd {
		t.Errorf("%d sums", len(met))
	}
	checkPacked(t, letter(0, 0, seal(1, 0, 172)), 76, 0, 0, 1, 0, 1, 0, 0, 0, 0, 172, 250)
	checkPacked(t, letter(0, 0, seal(1, 0, 173)), 76, 0, 0, 1, 0, 1, 0, 0, 0, 0, 173, 0)
	checkPacked(t, letter(0, 0, seal(1, 0, 174)), 76, 0, 0, 1, 0, 1, 0, 0, 0, 0, 174, 1)
	checkPacked(t, letter(1, 4, seal(255, 0, 165)), 76, 1, 4, 1, 0, 255, 0, 0, 0, 0, 165, 0)
	checkPacked(t, letter(1, 4, seal(255, 0, 164)), 76, 1, 4, 1, 0, 255, 0, 0, 0, 0, 164, 250)
}

// summedLetters have sums at 250, at 0, at 1 and elsewhere, and from no Seal up to MaxSeals.
func summedLetters() []impl.Letter {
	return []impl.Letter{
		letter(0, 0), letter(15, 15), letter(3, 1, seal(258, 2, 16909060)), letter(0, 0, seal(1, 0, 172)), letter(0, 0, seal(1, 0, 173)),
		letter(0, 0, seal(1, 0, 174)), letter(1, 4, seal(255, 0, 165)), plainLetter(2), plainLetter(17), plainLetter(maxSeals),
		greatestLetter(maxSeals), leastLetter(maxSeals), greatestLetter(1),
	}
}

// Of the 256 last bytes one alone is right: those that come to the same modulo 251 are not.
func TestLastByte(t *testing.T) {
	for _, l := range summedLetters() {
		b, _ := impl.PackLetter(l)
		last := len(b) - 1
		right := b[last]
		for each := range 256 {
			b[last] = byte(each)
			if byte(each) == right {
				checkRead(t, b, impl.WrOk)
			} else {
				checkRead(t, b, impl.WrSum)
			}
		}
	}
	checkRead(t, []byte{76, 0, 0, 1, 0, 1, 0, 0, 0, 0, 173, 251}, impl.WrSum)
	checkRead(t, []byte{76, 0, 0, 1, 0, 1, 0, 0, 0, 0, 177, 255}, impl.WrSum)
	checkRead(t, []byte{76, 0, 0, 1, 0, 1, 0, 0, 0, 0, 177, 4}, impl.WrOk)
}

func TestNoByteAndOne(t *testing.T) {
	checkRead(t, nil, impl.WrShort)
	checkRead(t, []byte{}, impl.WrShort)
	checkRead(t, []byte{75, 76}[:0], impl.WrShort)
	for each := range 256 {
		if each == letterByte {
			checkRead(t, []byte{byte(each)}, impl.WrShort)
		} else {
			checkRead(t, []byte{byte(each)}, impl.WrHead)
		}
	}
}

// Two to four bytes are too few, whatever they are behind a right first one.
func TestFewBytes(t *testing.T) {
	for count := 1; count <= 4; count++ {
		for _, each := range []byte{0, 1, 15, 16, 48, 49, 76, 250, 255} {
			b := slices.Repeat([]byte{each}, count)
			b[0] = letterByte
			checkRead(t, b, impl.WrShort)
			b[count-1] = sumWant(b[:count-1])
			if count > 1 {
				checkRead(t, b, impl.WrShort)
			}
			b[0] = 77
			checkRead(t, b, impl.WrHead)
		}
	}
	checkRead(t, []byte{76, 0, 0, 76}, impl.WrShort)
	checkRead(t, []byte{76, 0, 0, 0}, impl.WrShort)
	checkRead(t, []byte{76, 0, 0, 0, 76}, impl.WrOk)
	checkRead(t, []byte{76, 0, 0, 1, 77}, impl.WrShort)
	checkRead(t, []byte{76, 0, 0, 0, 76, 0}, impl.WrLong)
}

// All counts that a byte tells, with as many bytes as they need, with one fewer and one more, and with others.
func TestHowManyBytes(t *testing.T) {
	for count := range 256 {
		b := written(leastLetter(count))
		if count <= maxSeals {
			checkRead(t, b, impl.WrOk)
		} else {
			checkRead(t, b, impl.WrWrong)
		}
		for more := 1; more <= 8; more++ {
			fewer := b[:max(len(b)-more, 1)]
			checkRead(t, fewer, impl.WrShort)
			if len(fewer) > 4 {
				checkRead(t, resummed(fewer), impl.WrShort)
			}
			checkRead(t, append(slices.Clone(b), make([]byte, more)...), impl.WrLong)
			checkRead(t, summed(append(slices.Clone(b), make([]byte, more-1)...)...), impl.WrLong)
		}
		checkRead(t, append(slices.Clone(b), b...), impl.WrLong)
		checkRead(t, append(slices.Clone(b), make([]byte, 5000)...), impl.WrLong)
	}
	checkRead(t, append([]byte{letterByte}, make([]byte, 1<<20)...), impl.WrLong)
}

// Each beginning of a letter is too short, and with anything behind it a letter is too long, other letters too.
func TestBeginningsOfLetters(t *testing.T) {
	for _, l := range summedLetters() {
		b, _ := impl.PackLetter(l)
		for count := range b {
			checkRead(t, b[:count], impl.WrShort)
			if count > 0 {
				checkBytes(t, b[count:])
			}
		}
		for _, other := range summedLetters() {
			checkRead(t, append(slices.Clone(b), written(other)...), impl.WrLong)
		}
	}
}

// Bytes behind those that are given are not read, and not missed.
func TestSpareRoomIsNoByte(t *testing.T) {
	b, _ := impl.PackLetter(plainLetter(3))
	held := append(slices.Clone(b), 1, 2, 3)
	checkRead(t, held, impl.WrLong)
	checkRead(t, held[:len(b)], impl.WrOk)
	checkRead(t, b[:len(b)-1], impl.WrShort)
	checkRead(t, b[:0], impl.WrShort)
	checkRead(t, b[:4], impl.WrShort)
}

// Each byte but 76 ahead is refused, in a letter with which nothing else is wrong.
func TestFirstByte(t *testing.T) {
	for _, l := range summedLetters() {
		b, _ := impl.PackLetter(l)
		for each := range 256 {
			b[0] = byte(each)
			if each == letterByte {
				checkRead(t, b, impl.WrOk)
				continue
			}
			checkRead(t, b, impl.WrHead)
			checkRead(t, resummed(b), impl.WrHead)
		}
	}
}

// wrongLetters are wrong each by one thing that bytes can tell, from From to more Seals than MaxSeals.
func wrongLetters() []impl.Letter {
	list := []impl.Letter{plainLetter(maxSeals + 1), leastLetter(255), letter(16, 0), letter(0, 16), letter(255, 255)}
	for _, count := range []int{1, 2, maxSeals} {
		for _, spot := range spots(count) {
			for _, s := range []impl.Seal{
				seal(0, 0, 0), seal(maxRounds+1, 0, 0), seal(65535, 0, 0), seal(1, 16, 0), seal(1, 255, 0), seal(1, 0, tagEnd), seal(1, 0, 1<<32-1),
			} {
				l := plainLetter(count)
				l.Seals[spot] = s
				list = append(list, l)
			}
		}
		first, second := plainLetter(count), plainLetter(count)
		first.From, second.To = 16, 16
		list = append(list, first, second)
	}
	return list
}

// byteFaults change bytes so that they have just the fault of the code, beside those that they have; the wrong first byte comes last.
func byteFaults() []struct {
	code int64
	into func(b []byte) []byte
} {
	return []struct {
		code int64
		into func(b []byte) []byte
	}{
		{impl.WrSum, func(b []byte) []byte { return append(b[:len(b)-1], b[len(b)-1]+1) }},
		{impl.WrSum, func(b []byte) []byte { return append(b[:len(b)-1], b[len(b)-1]^128) }},
		{impl.WrLong, func(b []byte) []byte { return append(b, 0) }},
		{impl.WrLong, func(b []byte) []byte { return summed(b...) }},
		{impl.WrLong, func(b []byte) []byte { return append(b, 76, 0, 0, 0, 76) }},
		{impl.WrShort, func(b []byte) []byte { return b[:len(b)-1] }},
		{impl.WrShort, func(b []byte) []byte { return b[:4] }},
		{impl.WrShort, func(b []byte) []byte { return b[:1] }},
		{impl.WrHead, func(b []byte) []byte { b[0] = 75; return b }},
		{impl.WrHead, func(b []byte) []byte { b[0] = 0; return b }},
	}
}

// rank is where the fault of a code comes in the order of asking.
func rank(code int64) int {
	return slices.Index([]int64{impl.WrHead, impl.WrShort, impl.WrLong, impl.WrSum, impl.WrWrong, impl.WrOk}, code)
}

// Each fault alone and each two together: a wrong letter and a fault of its bytes, and two faults of the bytes.
func TestOrderOfFaults(t *testing.T) {
	for i, l := range append(wrongLetters(), summedLetters()...) {
		own := int64(impl.WrWrong)
		if i >= len(wrongLetters()) {
			own = impl.WrOk
		}
		checkRead(t, written(l), own)
		for _, first := range byteFaults() {
			checkRead(t, first.into(written(l)), first.code)
			for _, second := range byteFaults() {
				// Bytes can't be too few and too many at once, so what is done last must not undo what was done first.
				if rank(second.code) > rank(first.code) || first.code == second.code || first.code == impl.WrLong && second.code == impl.WrShort {
					continue
				}
				checkRead(t, second.into(first.into(written(l))), second.code)
			}
		}
	}
}

// All that a head, a count of bytes, a sum and a letter can be, in every way.
func TestAllFaultsTogether(t *testing.T) {
	for _, l := range append(wrongLetters(), summedLetters()...) {
		for _, head := range []byte{letterByte, 75, 0, 255} {
			for _, more := range []int{-8, -7, -1, 0, 1, 7, 8} {
				for _, off := range []byte{0, 1, 5, 251, 255} {
					b := append(written(l), make([]byte, 8)...)
					b = b[:max(len(b)-8+more, 1)]
					b[0] = head
					if len(b) > 4 {
						b = resummed(b)
						b[len(b)-1] += off
					}
					checkBytes(t, b)
				}
			}
		}
	}
}

// A wrong sum goes ahead of a letter that is not right; with a right sum the letter is what is wrong.
func TestSumAheadOfWrong(t *testing.T) {
	for _, l := range wrongLetters() {
		b := written(l)
		for each := range 256 {
			code := int64(impl.WrSum)
			if byte(each) == sumWant(b[:len(b)-1]) {
				code = impl.WrWrong
			}
			b[len(b)-1] = byte(each)
			checkRead(t, b, code)
		}
	}
}

// More Seals told than MaxSeals: with as many bytes as they need that is wrong, with fewer it is too short, as many as MaxSeals need too.
func TestMoreSealsTold(t *testing.T) {
	for count := maxSeals + 1; count < 256; count++ {
		b := written(leastLetter(count))
		checkRead(t, b, impl.WrWrong)
		for _, fewer := range []int{5, 12, 5 + 7*maxSeals, len(b) - 7, len(b) - 1} {
			checkRead(t, resummed(b[:fewer]), impl.WrShort)
		}
		checkRead(t, summed(b...), impl.WrLong)
		b[len(b)-1]++
		checkRead(t, b, impl.WrSum)
		b[0] = 0
		checkRead(t, b, impl.WrHead)
	}
	b := written(leastLetter(maxSeals))
	for count := range 256 {
		b[3] = byte(count)
		checkBytes(t, resummed(b))
	}
}

// letter is a right one, with any count of Seals up to MaxSeals; many of its numbers are at an end.
func (p *picker) letter() impl.Letter {
	l := letter(p.node(), p.node())
	for range p.sealCount() {
		l.Seals = append(l.Seals, seal(p.round(), p.node(), p.tag()))
	}
	return l
}

func (p *picker) sealCount() int64 {
	switch p.from(0, 5) {
	case 0:
		return p.from(0, 1)
	case 1:
		return maxSeals - p.from(0, 1)
	}
	return p.from(0, maxSeals)
}

func (p *picker) node() int64 { return []int64{0, 15, p.from(0, 15), p.from(0, 15)}[p.from(0, 3)] }

func (p *picker) round() int64 {
	return []int64{1, maxRounds, 255 + p.from(0, 2), p.from(1, maxRounds)}[p.from(0, 3)]
}

func (p *picker) tag() int64 {
	return []int64{0, tagEnd - 1, 1 << p.from(0, 30), p.from(0, tagEnd-1), p.from(0, tagEnd-1)}[p.from(0, 4)]
}

// P10, its first half: ReadLetter of PackLetter is the letter.
func TestReadOfPackedIsTheLetter(t *testing.T) {
	p := picker{seed: 1009}
	for range 30000 {
		l := p.letter()
		b, is := impl.PackLetter(l)
		got, code := impl.ReadLetter(b)
		if !is || code != impl.WrOk || !sameLetter(got, l) {
			t.Fatalf("%+v, %v was read as %+v, %d", l, is, got, code)
		}
		checkLetter(t, l, true)
	}
}

// And at its limits: each number at an end, in every way, with no Seal, one, and as many as may be.
func TestReadOfPackedAtTheLimits(t *testing.T) {
	for _, from := range []int64{0, 15} {
		for _, to := range []int64{0, 15} {
			checkLetter(t, letter(from, to), true)
			for _, round := range []int64{1, 255, 256, maxRounds} {
				for _, node := range []int64{0, 15} {
					for _, tag := range []int64{0, 255, 256, 65535, 65536, 1<<24 - 1, 1 << 24, tagEnd - 1} {
						for _, count := range []int{1, 2, maxSeals - 1, maxSeals} {
							checkLetter(t, letter(from, to, slices.Repeat([]impl.Seal{seal(round, node, tag)}, count)...), true)
						}
					}
				}
			}
		}
	}
}

// Letters that differ in one number are packed to other bytes.
func TestOtherLettersAreOtherBytes(t *testing.T) {
	p := picker{seed: 1013}
	for range 3000 {
		l := p.letter()
		others := []impl.Letter{p.letter(), cloneLetter(l), cloneLetter(l), cloneLetter(l)}
		others[1].From, others[2].To = 15-l.From, 15-l.To
		if count := int64(len(l.Seals)); count > 0 {
			others[3].Seals[p.from(0, count-1)] = seal(p.round(), p.node(), p.tag())
		}
		b, _ := impl.PackLetter(l)
		for _, other := range others {
			c, _ := impl.PackLetter(other)
			if slices.Equal(b, c) != sameLetter(l, other) {
				t.Fatalf("%+v is packed to %v, %+v to %v", l, b, other, c)
			}
		}
	}
}

// P10, its second half: what is read without a fault is packed to just these bytes (checkRead asks for it). Bytes of every kind: here all of
// five, but for the sum, of which a few are tried.
func TestAllLettersOfFiveBytes(t *testing.T) {
	fine := 0
	for from := range 256 {
		for to := range 256 {
			for _, off := range []byte{0, 1, 5, 251} {
				b := summed(letterByte, byte(from), byte(to), 0)
				b[4] += off
				checkBytes(t, b)
				if _, code := impl.ReadLetter(b); code == impl.WrOk {
					fine++
				}
			}
		}
	}
	if fine != 256 {
		t.Errorf("%d letters without a Seal", fine)
	}
}

// The same for letters of which one byte, or two, are others, with their old sum and with a new one.
func TestOtherBytesInLetters(t *testing.T) {
	p := picker{seed: 1019}
	for range 40 {
		b, _ := impl.PackLetter(p.letter())
		for place := range b {
			for _, each := range []byte{0, 1, 15, 16, 76, 127, 128, 250, 251, 255, b[place] + 1, b[place] - 1, byte(p.from(0, 255))} {
				other := slices.Clone(b)
				other[place] = each
				checkBytes(t, other)
				checkBytes(t, resummed(other))
				other[p.from(0, int64(len(b))-1)] = byte(p.from(0, 255))
				checkBytes(t, other)
				checkBytes(t, resummed(other))
			}
		}
	}
}

// The same for bytes by the picker: all kinds of bytes, most with a right first one, many with as many as they need, many small ones.
func TestBytesOfEveryKind(t *testing.T) {
	p := picker{seed: 1021}
	met := map[int64]int{}
	for range 120000 {
		b := make([]byte, p.from(0, 30))
		most := []int64{1, 3, 15, 16, 127, 255}[p.from(0, 5)]
		for i := range b {
			b[i] = byte(p.from(0, most))
		}
		if len(b) > 0 && p.from(0, 9) > 0 {
			b[0] = letterByte
		}
		if len(b) > 4 && p.from(0, 3) > 0 {
			b[3] = byte((len(b) - 5) / 7)
			b = b[:5+7*int(b[3])]
		}
		if len(b) > 1 && p.from(0, 3) > 0 {
			b = resummed(b)
		}
		checkBytes(t, b)
		_, code := impl.ReadLetter(b)
		met[code]++
	}
	for code := range int64(impl.WrWrong + 1) {
		if met[code] < 500 {
			t.Errorf("the code %d came %d times", code, met[code])
		}
	}
}

// The furthest numbers in every number: one alone, two, and more.
func TestLettersOfFurthestNumbers(t *testing.T) {
	furthest := []int64{math.MinInt64, math.MinInt64 + 1, -1, 0, 1, math.MaxInt64 - 1, math.MaxInt64}
	fits := func(list ...int64) bool { return slices.Min(list) >= 0 && slices.Max(list) <= 1 }
	for _, a := range furthest {
		checkLetter(t, letter(a, 0), fits(a))
		checkLetter(t, letter(0, a), fits(a))
		checkLetter(t, letter(0, 0, seal(a, 0, 0)), a == 1)
		checkLetter(t, letter(0, 0, seal(1, a, 0)), fits(a))
		checkLetter(t, letter(0, 0, seal(1, 0, a)), fits(a))
		for _, b := range furthest {
			checkLetter(t, letter(a, b), fits(a, b))
			checkLetter(t, letter(a, 3, seal(1, b, 2)), fits(a, b))
			checkLetter(t, letter(3, a, seal(1, 2, b)), fits(a, b))
			checkLetter(t, letter(a, 3, seal(b, 2, 2)), fits(a) && b == 1)
			checkLetter(t, letter(0, 0, seal(1, 2, 3), seal(a, 4, b)), fits(b) && a == 1)
			for _, c := range furthest {
				checkLetter(t, letter(0, 0, seal(a, b, c)), fits(b, c) && a == 1)
				checkLetter(t, letter(a, b, seal(c, c, c)), fits(a, b) && c == 1)
			}
		}
	}
}

// Numbers of all sizes anywhere in a letter that is else right.
func TestLettersOfAllSizes(t *testing.T) {
	p := picker{seed: 1031}
	for i := range 4000 {
		l := p.letter()
		l.Seals = append(l.Seals, seal(1, 2, 3))
		spot := &l.Seals[p.from(0, int64(len(l.Seals))-1)]
		for _, n := range append(numbersFrom(uint64(i), 3), edgeNumbers()[i%len(edgeNumbers())]) {
			for _, place := range []*int64{&l.From, &l.To, &spot.Round, &spot.Node, &spot.Tag} {
				old := *place
				*place = n
				checkLetter(t, l, letterWant(l))
				*place = old
			}
		}
	}
}

// memoryLetters are right and wrong ones, with no Seal and with many.
func memoryLetters() []impl.Letter {
	return append(append(summedLetters(), wrongLetters()...), letter(-1, 3), letter(3, math.MinInt64, seal(1, 2, 3)), impl.Letter{})
}

// P19: no function writes into the Seals, ahead of them or behind them, not even when the bytes of its answer are written over.
func TestLettersStay(t *testing.T) {
	for _, l := range memoryLetters() {
		room, held := roomAround(l.Seals, seal(31, 32, 33), seal(0, 0, 0), seal(-1, 99, 50))
		before := slices.Clone(room)
		given := impl.Letter{From: l.From, To: l.To, Seals: held}
		checkLetter(t, given, letterWant(l))
		b, _ := impl.PackLetter(given)
		fillWith(b, 77)
		if !slices.Equal(room, before) || given.From != l.From || given.To != l.To {
			t.Fatalf("%+v became %+v, in %v", l, given, room)
		}
		checkLetter(t, given, letterWant(l))
	}
}

// memoryBytes are those of right letters and with every fault.
func memoryBytes() [][]byte {
	list := [][]byte{nil, {}, {76}, {75}, {76, 0, 0, 0}, {76, 0, 0, 0, 76, 0}, {76, 16, 0, 0, 92}}
	for _, l := range summedLetters() {
		list = append(list, written(l))
		for _, fault := range byteFaults() {
			list = append(list, fault.into(written(l)))
		}
	}
	for _, l := range wrongLetters() {
		list = append(list, written(l))
	}
	return list
}

// P19 for bytes: neither they nor the room around them are written into, and a letter that was read is of its own.
func TestBytesStay(t *testing.T) {
	for _, b := range memoryBytes() {
		room, held := roomAround(b, 31, 76, 0, 99)
		before := slices.Clone(room)
		checkBytes(t, held)
		first, code := impl.ReadLetter(held)
		second, _ := impl.ReadLetter(held)
		want := cloneLetter(first)
		fillWith(first.Seals, seal(9, 9, 9))
		if !slices.Equal(room, before) {
			t.Fatalf("%v became %v", before, room)
		}
		fillWith(room, 5)
		if !sameLetter(second, want) {
			t.Fatalf("%v: %+v became %+v, %d", b, want, second, code)
		}
	}
}

// Packed twice, a letter is two lists of bytes; those that were packed stay when the letter changes.
func TestPackedBytesAreNewMemory(t *testing.T) {
	for _, l := range memoryLetters() {
		l = cloneLetter(l)
		first, _ := impl.PackLetter(l)
		second, _ := impl.PackLetter(l)
		want := slices.Clone(first)
		fillWith(first, 77)
		fillWith(l.Seals, seal(9, 9, 9))
		if !slices.Equal(second, want) {
			t.Fatalf("%v became %v", want, second)
		}
	}
}
