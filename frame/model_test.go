package frame_test

import (
	"encoding/binary"
	"math/rand"
	"slices"
	"testing"

	"flume/api"
	"flume/frame"
)

// word is a number of four octets; stream one whose highest bit is nothing.
func word(b string) uint32 { return binary.BigEndian.Uint32([]byte(b)) }

func stream(b string) int { return int(word(b) << 1 >> 1) }

// told is what Next is to say of octets, and how many are held no more: a
// plain model, kind by kind.
func told(b string, most int) (api.Frame, api.Fault, bool, int) {
	if len(b) < 9 {
		return api.Frame{}, api.Fault{}, false, 0
	}
	length := int(word("\x00" + b[:3]))
	if length > most {
		return api.Frame{}, fault(api.FrameSizeError, 0), true, len(b)
	}
	if len(b) < 9+length {
		return api.Frame{}, api.Fault{}, false, 0
	}
	f, x := toldKind(int(b[3]), b[4], stream(b[5:9]), b[9:9+length])
	if x.Is {
		f = api.Frame{}
		if x.Stream == 0 {
			return f, x, true, len(b)
		}
	}
	return f, x, true, 9 + length
}

func toldKind(kind int, flags byte, id int, b string) (api.Frame, api.Fault) {
	f := api.Frame{Kind: kind, Stream: id}
	protocol, size := fault(api.ProtocolError, 0), fault(api.FrameSizeError, 0)
	bit := func(n int) bool { return flags>>n%2 == 1 }
	if slices.Contains([]int{0, 1, 2, 3, 5, 9}, kind) && id == 0 || slices.Contains([]int{4, 6, 7}, kind) && id != 0 {
		return f, protocol
	}
	// The first octet and the padding of the three kinds that have it.
	padded := bit(3) && slices.Contains([]int{0, 1, 5}, kind)
	least := map[int]int{5: 4, 7: 8}[kind]
	if kind == 1 && bit(5) {
		least = 5
	}
	if padded {
		if len(b) < 1+least {
			return f, size
		}
		n := int(b[0])
		if n > len(b)-1-least {
			return f, protocol
		}
		f.Pad = n + 1
		b = b[1 : len(b)-n]
	}
	if len(b) < least {
		return f, size
	}
	switch kind {
	case 0:
		f.End, f.Payload = bit(0), []byte(b)
	case 1:
		f.End, f.EndHeaders, f.Prio = bit(0), bit(2), bit(5)
		if f.Prio {
			f.Depend, f.Exclusive, f.Weight = stream(b), b[0] > 127, int(b[4])+1
		}
		f.Payload = []byte(b[least:])
	case 2:
		if len(b) != 5 {
			return f, fault(api.FrameSizeError, id)
		}
		f.Depend, f.Exclusive, f.Weight = stream(b), b[0] > 127, int(b[4])+1
	case 3:
		if len(b) != 4 {
			return f, size
		}
		f.Code = api.Code(word(b))
	case 4:
		f.Ack = bit(0)
		if len(b)%6 != 0 || f.Ack && b != "" {
			return f, size
		}
		for i := 0; i < len(b); i += 6 {
			f.List = append(f.List, api.Setting{ID: int(b[i])<<8 + int(b[i+1]), Value: word(b[i+2:])})
		}
	case 5:
		f.EndHeaders, f.Last, f.Payload = bit(2), stream(b), []byte(b[4:])
		if f.Last == 0 {
			return f, protocol
		}
	case 6:
		if len(b) != 8 {
			return f, size
		}
		f.Ack, f.Payload = bit(0), []byte(b)
	case 7:
		f.Last, f.Code, f.Payload = stream(b), api.Code(word(b[4:])), []byte(b[8:])
	case 8:
		if len(b) != 4 {
			return f, size
		}
		f.Inc = stream(b)
		if f.Inc == 0 {
			return f, fault(api.ProtocolError, id)
		}
	case 9:
		f.EndHeaders, f.Payload = bit(2), []byte(b)
	default:
		f.Flags, f.Payload = int(flags), []byte(b)
	}
	return f, api.Fault{}
}

// asModel asks a new parser with these octets for all that it tells, and
// whether that can be written and is told the same then.
func asModel(t *testing.T, b string) {
	t.Helper()
	p := frame.New(0)
	feeds(t, p, b)
	for {
		f, x, ok, n := told(b, api.MinFrame)
		b = b[n:]
		switch {
		case !ok:
			tellsNothing(t, p, len(b))
			return
		case x.Is:
			tellsFault(t, p, x, len(b))
			if x.Stream == 0 {
				isDone(t, p)
				return
			}
		default:
			tells(t, p, f, len(b))
			again, e := frame.Write(f)
			if e != api.OK || len(again) != n {
				t.Errorf("Write of %+v: %x, %v", f, again, e)
			}
			tells(t, fed(t, string(again)), f, 0)
		}
		if t.Failed() {
			return
		}
	}
}

// All kinds, flags and small lengths, on streams and on none, with octets of
// few, of many, and of those with the highest bit alone.
func TestParserIsAsThePlainModel(t *testing.T) {
	payloads := []string{
		"\x00\x00\x00\x00\x00\x00\x00\x00\x00\x00\x00\x00\x00",
		"\x80\x00\x00\x00\x00\x80\x00\x00\x00\x00\x80\x00\x00",
		"\x01\x02\x03\x04\x05\x06\x07\x08\x09\x0a\x0b\x0c\x0d",
		"\x04\xff\xff\xff\xff\xff\xff\xff\xff\xff\xff\xff\xff",
	}
	for kind := range 256 {
		if kind > 12 && kind < 250 {
			continue
		}
		for flags := range 256 {
			for length := range 14 {
				for i, payload := range payloads {
					id := byte(i % 2)
					if kind == 4 || kind == 6 || kind == 7 {
						id = byte(flags / 128 % 2)
					} else if kind != 8 && flags < 64 {
						id = 7
					}
					h := string([]byte{0, 0, byte(length), byte(kind), byte(flags), byte(i * 64), 0, 0, id})
					asModel(t, h+payload[:length]+"\x00")
				}
				if t.Failed() {
					t.Fatalf("kind %d, flags %#x, length %d", kind, flags, length)
				}
			}
		}
	}
}

// someFrame is one that may be, more often than not.
func someFrame(r *rand.Rand) api.Frame {
	f := api.Frame{Kind: r.Intn(11), Stream: r.Intn(3)}
	payload := make([]byte, r.Intn(2)*r.Intn(30))
	r.Read(payload)
	yes := func() bool { return r.Intn(2) == 0 }
	depend := func() { f.Depend, f.Exclusive, f.Weight = r.Intn(1<<31), yes(), r.Intn(258) }
	switch f.Kind {
	case api.Data:
		f.End, f.Pad, f.Payload = yes(), r.Intn(2)*r.Intn(258), payload
	case api.Headers:
		f.End, f.EndHeaders, f.Prio, f.Pad, f.Payload = yes(), yes(), yes(), r.Intn(2)*r.Intn(258), payload
		if f.Prio {
			depend()
		}
	case api.Priority:
		depend()
	case api.RstStream:
		f.Code = api.Code(r.Uint32())
	case api.Settings:
		f.Stream, f.Ack = f.Stream/2, r.Intn(4) == 0
		for range r.Intn(2) * r.Intn(5) {
			f.List = append(f.List, api.Setting{ID: r.Intn(65538), Value: r.Uint32()})
		}
	case api.PushPromise:
		f.EndHeaders, f.Pad, f.Last, f.Payload = yes(), r.Intn(2)*r.Intn(258), r.Intn(1<<31)/(1+r.Intn(2)<<30), payload
	case api.Ping:
		f.Stream, f.Ack, f.Payload = f.Stream/2, yes(), []byte("01234567")[r.Intn(10)/9:]
	case api.Goaway:
		f.Stream, f.Last, f.Code, f.Payload = f.Stream/2, r.Intn(1<<31), api.Code(r.Uint32()), payload
	case api.WindowUpdate:
		f.Inc = r.Intn(1<<31) / (1 + r.Intn(2)<<30)
	case api.Continuation:
		f.EndHeaders, f.Payload = yes(), payload
	default:
		f.Kind, f.Flags, f.Payload = 10+r.Intn(247), r.Intn(257), payload
	}
	return f
}

// What can be written is told as it was, whatever it is; what can't be written
// is told in no octets.
func TestWriteIsTheOtherWay(t *testing.T) {
	r := rand.New(rand.NewSource(1))
	good, bad := 0, 0
	for range 100000 {
		f := someFrame(r)
		b, e := frame.Write(f)
		if e == api.OK {
			good++
			got, x, ok, n := told(string(b), api.MostFrame)
			if !same(got, f) || x.Is || !ok || n != len(b) {
				t.Fatalf("Write of %+v: %x", f, b)
			}
			tells(t, fed(t, string(b)), f, 0)
		} else {
			bad++
			if mayBe(f) || e != api.ErrArg || len(b) > 0 {
				t.Fatalf("Write of %+v: %x, %v", f, b, e)
			}
		}
	}
	if good < 10000 || bad < 10000 {
		t.Errorf("%d good, %d bad", good, bad)
	}
}

// mayBe asks for what someFrame may have got wrong.
func mayBe(f api.Frame) bool {
	on := slices.Contains([]int{0, 1, 2, 3, 5, 9}, f.Kind)
	off := slices.Contains([]int{4, 6, 7}, f.Kind)
	switch {
	case on && f.Stream == 0, off && f.Stream > 0, f.Kind > 255, f.Flags > 255, f.Pad > 256, f.Weight > 256:
		return false
	case f.Weight == 0 && (f.Prio || f.Kind == api.Priority):
		return false
	case f.Kind == api.PushPromise && f.Last == 0, f.Kind == api.WindowUpdate && f.Inc == 0, f.Kind == api.Ping && len(f.Payload) != 8:
		return false
	case f.Ack && len(f.List) > 0:
		return false
	}
	for _, s := range f.List {
		if s.ID > 65535 {
			return false
		}
	}
	return true
}

// someOctets are frames one behind the other, of which some octets may be
// others.
func someOctets(r *rand.Rand) string {
	var out []byte
	for len(out) < 100 {
		b, _ := frame.Write(someFrame(r))
		out = append(out, b...)
	}
	for range r.Intn(3) {
		// Heads are where it matters.
		out[r.Intn(min(40, len(out)))] ^= 1 << r.Intn(8)
	}
	return string(out[:r.Intn(len(out)+1)])
}

func TestParserOfDamagedFrames(t *testing.T) {
	r := rand.New(rand.NewSource(2))
	for range 20000 {
		b := someOctets(r)
		asModel(t, b)
		if t.Failed() {
			t.Fatalf("%x", b)
		}
	}
}

func FuzzParser(f *testing.F) {
	for _, x := range examples {
		if len(x.b) < 1000 {
			f.Add([]byte(x.b))
		}
	}
	f.Fuzz(func(t *testing.T, b []byte) {
		asModel(t, string(b[:min(len(b), api.MinFrame)]))
	})
}
