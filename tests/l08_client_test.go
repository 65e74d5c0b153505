package tests

import (
	"bytes"
	"encoding/binary"
	"fmt"
	"math"
	"math/rand/v2"
	"slices"
	"strings"
	"sync"
	"testing"

	"loop.example/g00799/impl"
)

// outOfRooms, outOfNexts and outOfStates are not so in any client; some of them are so only by their higher bits.
var outOfRooms = []int64{0, -1, -2, -16, 17, 18, 32, 257, 1 << 32, 1<<32 + 2, math.MaxInt64, math.MaxInt64 - 1, math.MinInt64, math.MinInt64 + 1}

var outOfNexts = []int64{-1, -2, -9999, -10000, 10001, 10002, 65536, 1 << 31, 1 << 32, 1<<32 + 5, math.MaxInt64, math.MaxInt64 - 1, math.MinInt64, math.MinInt64 + 1}

var outOfStates = []int64{0, 3, 4, -1, -2, 257, 1 << 32, 1<<32 + 1, 1<<32 + 2, math.MaxInt64, math.MinInt64, math.MinInt64 + 1}

var outOfTicks = []int64{-1, -2, -5000, -5001, 5001, 5002, 10000, 1 << 31, 1 << 32, 1<<32 + 5, math.MaxInt64, math.MaxInt64 - 1, math.MinInt64, math.MinInt64 + 1}

// itemCodes are those of faultyItems, in one order, so that each run of the tests tries the same.
var itemCodes = []int64{impl.ErrForm, impl.ErrMany, impl.ErrRange}

var someTicks = []int64{0, 1, 49, 50, 299, 300, 999, 1000, 2999, 3000, 4999, 5000}

func clientConfigOf(room int64, start int64) impl.ClientConfig {
	return impl.ClientConfig{Key: countedKey(), Room: room, Start: start}
}

// busyConfig and busyClient have no fault: the client has sent and heard, and has more to say than one packet takes.
func busyConfig() impl.ClientConfig {
	return clientConfigOf(16, 7)
}

func busyClient() impl.Client {
	return impl.Client{
		Now: 70000, Seq: 42, Log: logOf(7, someItems(6)...), Sent: 69900, Timer: known(100, 50, 300),
		Replay: replayOf(40, 9, 30, 38, 40), Echo: 515, State: impl.StLive,
	}
}

func changedClient(change func(c *impl.Client)) impl.Client {
	c := busyClient()
	change(&c)
	return c
}

func cloneClient(c impl.Client) impl.Client {
	c.Log.Items = cloneItems(c.Log.Items)
	c.Replay.Seen = slices.Clone(c.Replay.Seen)
	return c
}

func isClient(a impl.Client, b impl.Client) bool {
	return a.Now == b.Now && a.Seq == b.Seq && isLog(a.Log, b.Log.Base, b.Log.Items) && a.Sent == b.Sent &&
		a.Timer == b.Timer && isReplay(a.Replay, b.Replay.Top, b.Replay.Seen) && a.Echo == b.Echo && a.State == b.State
}

// trueClientConfigFault and those behind it go by the words of the document.
func trueClientConfigFault(k impl.ClientConfig) int64 {
	if len(k.Key) != 32 || !isWithin(k.Room, 1, 16) || !isWithin(k.Start, 0, 10000) {
		return impl.ErrRange
	}
	return impl.OK
}

func trueClientFault(c impl.Client, k impl.ClientConfig) int64 {
	switch {
	case trueClientConfigFault(k) != impl.OK:
		return trueClientConfigFault(k)
	case !isWithin(c.Now, 0, 1000000), !isWithin(c.Seq, 0, 10000), c.Sent != -1 && !isWithin(c.Sent, 0, c.Now):
		return impl.ErrRange
	case c.Echo != 65536 && !isWithin(c.Echo, 0, 65535), c.State != 1 && c.State != 2:
		return impl.ErrRange
	case trueLogFault(c.Log, k.Room) != impl.OK:
		return trueLogFault(c.Log, k.Room)
	case trueTimerFault(c.Timer) != impl.OK:
		return trueTimerFault(c.Timer)
	}
	return trueFault(c.Replay)
}

func trueTypeClient(c impl.Client, k impl.ClientConfig, x impl.Item) impl.ClientResult {
	c = cloneClient(c)
	switch {
	case trueClientFault(c, k) != impl.OK:
		return impl.ClientResult{Code: trueClientFault(c, k)}
	case trueItemFault(x) != impl.OK:
		return impl.ClientResult{Code: trueItemFault(x)}
	case c.State == 2:
		return impl.ClientResult{Code: impl.ErrState}
	case c.Log.Base+int64(len(c.Log.Items)) == 9000:
		c.State = 2
	case int64(len(c.Log.Items)) == k.Room:
		return impl.ClientResult{Code: impl.ErrFull}
	default:
		c.Log.Items = append(c.Log.Items, cloneItems([]impl.Item{x})...)
	}
	return impl.ClientResult{Client: c}
}

func trueTickClient(c impl.Client, k impl.ClientConfig, ms int64) impl.ClientResult {
	c = cloneClient(c)
	if code := trueClientFault(c, k); code != impl.OK {
		return impl.ClientResult{Code: code}
	}
	if !isWithin(ms, 0, 5000) || c.Now+ms > 1000000 {
		return impl.ClientResult{Code: impl.ErrRange}
	}
	c.Now += ms
	sends := false
	switch has := len(c.Log.Items) > 0; {
	case c.State == 2:
	case c.Sent == -1:
		sends = has
	case has && c.Now >= c.Sent+c.Timer.Rto, c.Now >= c.Sent+3000:
		sends = true
	}
	if !sends {
		return impl.ClientResult{Client: c}
	}
	if c.Seq > 9999 {
		c.State = 2
		return impl.ClientResult{Client: c}
	}
	body := bodyOf(c.Log.Base, c.Now%65536, c.Echo, c.Log.Items[:min(4, len(c.Log.Items))]...)
	packet := trueSealed(k.Key, 0, uint32(c.Seq), trueBodyBytes(body))
	c.Seq, c.Sent = c.Seq+1, c.Now
	return impl.ClientResult{Client: c, Packet: packet}
}

func trueOpened(key []byte, packet []byte) impl.PacketResult {
	many := len(packet)
	if many < 13 || many > 133 {
		return impl.PacketResult{Code: impl.ErrMany}
	}
	side, seq := packet[0], binary.BigEndian.Uint32(packet[1:])
	if side > 1 || seq > 9999 {
		return impl.PacketResult{Code: impl.ErrText}
	}
	if !bytes.Equal(packet, tagged(key, packet[:many-8])) {
		return impl.PacketResult{Code: impl.ErrSum}
	}
	return impl.PacketResult{Side: int64(side), Seq: int64(seq), Plain: trueHidden(key, packet[:5], packet[5:many-8])}
}

func trueHearCode(c impl.Client, k impl.ClientConfig, opened impl.PacketResult) int64 {
	r, isReply := trueReply(opened.Plain)
	switch {
	case opened.Code != impl.OK:
		return opened.Code
	case opened.Side != 1:
		return impl.ErrState
	case c.Replay.Top != -1 && (opened.Seq <= c.Replay.Top-32 || slices.Contains(c.Replay.Seen, opened.Seq)):
		return impl.ErrOld
	case !isReply:
		return impl.ErrText
	case r.Ack > c.Log.Base+int64(len(c.Log.Items)):
		return impl.ErrRange
	}
	return impl.OK
}

func trueHearClient(c impl.Client, k impl.ClientConfig, packet []byte) impl.ClientResult {
	c = cloneClient(c)
	if code := trueClientFault(c, k); code != impl.OK {
		return impl.ClientResult{Code: code}
	}
	opened := trueOpened(k.Key, packet)
	if code := trueHearCode(c, k, opened); code != impl.OK {
		return impl.ClientResult{Code: code}
	}
	r, _ := trueReply(opened.Plain)
	c.Replay = (&history{append(c.Replay.Seen, opened.Seq)}).window()
	for c.Log.Base < r.Ack {
		c.Log = logOf(c.Log.Base+1, c.Log.Items[1:]...)
	}
	passed := c.Now - r.Echo
	for passed < 0 {
		passed += 65536
	}
	if passed %= 65536; r.Echo != 65536 && passed <= 5000 {
		c.Timer = trueSample(c.Timer, passed)
	}
	if c.Replay.Top == opened.Seq {
		c.Echo = r.Stamp
	}
	return impl.ClientResult{Client: c}
}

func sealedReply(seq int64, ack int64, stamp int64, echo int64) []byte {
	return trueSealed(countedKey(), 1, uint32(seq), trueReplyBytes(replyOf(ack, stamp, echo)))
}

func wantClient(t *testing.T, name string, got impl.ClientResult, want impl.ClientResult) {
	t.Helper()
	if got.Code != want.Code || !isClient(got.Client, want.Client) || !bytes.Equal(got.Packet, want.Packet) {
		t.Errorf("%s:\n%+v; want\n%+v", name, got, want)
	}
}

func wantClientFault(t *testing.T, name string, got impl.ClientResult, code int64) {
	t.Helper()
	wantClient(t, name, got, impl.ClientResult{Code: code})
}

// wantQuiet is for an answer with which nothing is sent.
func wantQuiet(t *testing.T, name string, got impl.ClientResult, want impl.Client) {
	t.Helper()
	wantClient(t, name, got, impl.ClientResult{Client: want})
}

// wantBadClient asks all functions of a client: its fault comes ahead of whatever else is asked.
func wantBadClient(t *testing.T, name string, c impl.Client, k impl.ClientConfig, want int64) {
	t.Helper()
	if code := impl.ClientFault(c, k); code != want || trueClientFault(c, k) != want {
		t.Errorf("ClientFault: %s: code %d; want %d", name, code, want)
	}
	for _, x := range []impl.Item{keyOf("x"), sizeOf(1, 1), {}, keyOf(""), sizeOf(0, 0)} {
		wantClientFault(t, fmt.Sprintf("TypeClient of %+v: %s", x, name), impl.TypeClient(c, k, x), want)
	}
	for _, ms := range []int64{0, 1, 5000, 5001, -1, math.MaxInt64, math.MinInt64} {
		wantClientFault(t, fmt.Sprintf("TickClient of %d: %s", ms, name), impl.TickClient(c, k, ms), want)
	}
	for _, packet := range [][]byte{nil, {1}, make([]byte, 13), make([]byte, 134), sealedReply(41, 8, 1, 2), sealedReply(40, 8, 1, 2), sealedReply(41, 9000, 1, 2)} {
		wantClientFault(t, fmt.Sprintf("HearClient of %v: %s", packet, name), impl.HearClient(c, k, packet), want)
	}
}

// wantBadConfig asks all functions of a config, also beside clients that have faults of their own.
func wantBadConfig(t *testing.T, name string, k impl.ClientConfig) {
	t.Helper()
	if code := impl.ClientConfigFault(k); code != impl.ErrRange {
		t.Errorf("ClientConfigFault: %s: code %d; want %d", name, code, impl.ErrRange)
	}
	wantClientFault(t, "NewClient: "+name, impl.NewClient(k), impl.ErrRange)
	wantBadClient(t, name, busyClient(), k, impl.ErrRange)
	wantBadClient(t, name+", and no client", impl.Client{}, k, impl.ErrRange)
	wantBadClient(t, name+", and an item", changedClient(func(c *impl.Client) { c.Log = logOf(0, impl.Item{}) }), k, impl.ErrRange)
}

// wantGoodClient asks all functions, each with some arguments, for what the document tells.
func wantGoodClient(t *testing.T, name string, c impl.Client, k impl.ClientConfig) {
	t.Helper()
	if code := impl.ClientFault(c, k); code != impl.OK {
		t.Errorf("ClientFault: %s: code %d", name, code)
	}
	wantRightAnswers(t, name, c, k)
}

func wantRightAnswers(t *testing.T, name string, c impl.Client, k impl.ClientConfig) {
	t.Helper()
	if code := impl.ClientFault(c, k); code != trueClientFault(c, k) {
		t.Errorf("ClientFault: %s: %+v with %+v: code %d; want %d", name, c, k, code, trueClientFault(c, k))
	}
	for _, x := range []impl.Item{keyOf("x"), sizeOf(80, 24), {}, keyOf("123456789")} {
		wantClient(t, fmt.Sprintf("TypeClient of %+v: %s", x, name), impl.TypeClient(c, k, x), trueTypeClient(c, k, x))
	}
	for _, ms := range []int64{0, 250, 3000, 5000, 5001, -1} {
		wantClient(t, fmt.Sprintf("TickClient of %d: %s", ms, name), impl.TickClient(c, k, ms), trueTickClient(c, k, ms))
	}
	top, behind := max(c.Replay.Top, 0), min(max(c.Log.Base, 0), 9000)
	for _, seq := range []int64{top, min(top+1, 9999), max(top-1, 0)} {
		for _, ack := range []int64{behind, min(behind+2, 9000)} {
			packet := sealedReply(seq, ack, 77, c.Now&65535)
			wantClient(t, fmt.Sprintf("HearClient of the reply %d with Ack %d: %s", seq, ack, name), impl.HearClient(c, k, packet), trueHearClient(c, k, packet))
		}
	}
}

func wantHeard(t *testing.T, name string, c impl.Client, packet []byte, want impl.ClientResult) {
	t.Helper()
	wantClient(t, "HearClient: "+name, impl.HearClient(c, busyConfig(), packet), want)
	wantClient(t, "the reckoning of HearClient: "+name, trueHearClient(c, busyConfig(), packet), want)
}

func wantUnheard(t *testing.T, name string, c impl.Client, packet []byte, code int64) {
	t.Helper()
	was := cloneClient(c)
	wantHeard(t, name, c, packet, impl.ClientResult{Code: code})
	if !isClient(c, was) {
		t.Errorf("HearClient: %s: what was refused has changed the client", name)
	}
}

func TestClientNumbers(t *testing.T) {
	got := []int64{impl.Heartbeat, impl.MaxTickMs, impl.StLive, impl.StExhausted, impl.StPtyFailed, impl.NeverSent}
	if want := []int64{3000, 5000, 1, 2, 3, -1}; !slices.Equal(got, want) {
		t.Errorf("Heartbeat, MaxTickMs, StLive, StExhausted, StPtyFailed and NeverSent are %v; want %v", got, want)
	}
}

func TestNewClientOfEveryConfig(t *testing.T) {
	for room := int64(1); room <= 16; room++ {
		for _, start := range []int64{0, 1, 7, 255, 256, 9998, 9999, 10000} {
			k := clientConfigOf(room, start)
			if code := impl.ClientConfigFault(k); code != impl.OK {
				t.Errorf("ClientConfigFault of the room %d and the start %d: code %d", room, start, code)
			}
			want := impl.Client{Seq: start, Sent: -1, Timer: impl.Timer{Rto: 1000}, Replay: impl.Replay{Top: -1}, Echo: 65536, State: 1}
			wantQuiet(t, fmt.Sprint("NewClient with the start ", start), impl.NewClient(k), want)
			wantGoodClient(t, fmt.Sprintf("a new client with the room %d and the start %d", room, start), want, k)
		}
	}
	k := busyConfig()
	k.Key = make([]byte, 32)
	wantQuiet(t, "NewClient with a key of noughts", impl.NewClient(k), impl.NewClient(busyConfig()).Client)
}

func TestConfigsOfAClientThatAreNotSo(t *testing.T) {
	for _, size := range badKeySizes {
		k := busyConfig()
		k.Key = countedBytes(size, 0)
		wantBadConfig(t, fmt.Sprintf("a key of %d bytes", size), k)
	}
	k := busyConfig()
	k.Key = nil
	wantBadConfig(t, "no key", k)
	wantBadConfig(t, "nothing", impl.ClientConfig{})
	for _, room := range outOfRooms {
		wantBadConfig(t, fmt.Sprint("the room ", room), clientConfigOf(room, 0))
	}
	for _, start := range outOfNexts {
		wantBadConfig(t, fmt.Sprint("the start ", start), clientConfigOf(16, start))
		wantBadConfig(t, fmt.Sprint("no room, and the start ", start), clientConfigOf(0, start))
	}
}

func TestNumbersOfAClient(t *testing.T) {
	k := busyConfig()
	for _, now := range []int64{0, 1, 69900, 70000, 999999, 1000000} {
		for _, sent := range []int64{-1, 0, now / 2, max(now-1, 0), now} {
			c := changedClient(func(c *impl.Client) { c.Now, c.Sent = now, sent })
			wantGoodClient(t, fmt.Sprintf("Now %d and Sent %d", now, sent), c, k)
		}
		for _, sent := range []int64{-2, -3, now + 1, now + 2, 1 << 32, math.MaxInt64, math.MaxInt64 - 1, math.MinInt64, math.MinInt64 + 1} {
			c := changedClient(func(c *impl.Client) { c.Now, c.Sent = now, sent })
			wantBadClient(t, fmt.Sprintf("Now %d and Sent %d", now, sent), c, k, impl.ErrRange)
		}
	}
	for _, now := range outOfClocks {
		for _, sent := range []int64{-1, 0, now} {
			c := changedClient(func(c *impl.Client) { c.Now, c.Sent = now, sent })
			wantBadClient(t, fmt.Sprintf("Now %d and Sent %d", now, sent), c, k, impl.ErrRange)
		}
	}
	for _, seq := range append([]int64{10000}, goodSeqs...) {
		wantGoodClient(t, fmt.Sprint("Seq ", seq), changedClient(func(c *impl.Client) { c.Seq = seq }), k)
	}
	for _, seq := range outOfNexts {
		wantBadClient(t, fmt.Sprint("Seq ", seq), changedClient(func(c *impl.Client) { c.Seq = seq }), k, impl.ErrRange)
	}
}

func TestEchoAndStateOfAClient(t *testing.T) {
	k := busyConfig()
	for _, echo := range someEchoes {
		wantGoodClient(t, fmt.Sprint("Echo ", echo), changedClient(func(c *impl.Client) { c.Echo = echo }), k)
	}
	for _, echo := range outOfEchoes {
		wantBadClient(t, fmt.Sprint("Echo ", echo), changedClient(func(c *impl.Client) { c.Echo = echo }), k, impl.ErrRange)
	}
	for _, state := range []int64{impl.StLive, impl.StExhausted} {
		wantGoodClient(t, fmt.Sprint("State ", state), changedClient(func(c *impl.Client) { c.State = state }), k)
	}
	for _, state := range outOfStates {
		wantBadClient(t, fmt.Sprint("State ", state), changedClient(func(c *impl.Client) { c.State = state }), k, impl.ErrRange)
	}
}

// clientFault is a fault in one of the parts of a client, in the order in which the document asks them.
type clientFault struct {
	part  int
	code  int64
	spoil func(c *impl.Client, k *impl.ClientConfig)
}

func clientFaults() []clientFault {
	faults := []clientFault{
		{0, impl.ErrRange, func(c *impl.Client, k *impl.ClientConfig) { k.Key = nil }},
		{0, impl.ErrRange, func(c *impl.Client, k *impl.ClientConfig) { k.Room = 17 }},
		{0, impl.ErrRange, func(c *impl.Client, k *impl.ClientConfig) { k.Start = 10001 }},
		{1, impl.ErrRange, func(c *impl.Client, k *impl.ClientConfig) { c.Now = 1000001 }},
		{1, impl.ErrRange, func(c *impl.Client, k *impl.ClientConfig) { c.Seq = 10001 }},
		{1, impl.ErrRange, func(c *impl.Client, k *impl.ClientConfig) { c.Sent = 70001 }},
		{1, impl.ErrRange, func(c *impl.Client, k *impl.ClientConfig) { c.Echo = 65537 }},
		{1, impl.ErrRange, func(c *impl.Client, k *impl.ClientConfig) { c.State = 3 }},
		{2, impl.ErrRange, func(c *impl.Client, k *impl.ClientConfig) { c.Log.Base = 9001 }},
		{2, impl.ErrMany, func(c *impl.Client, k *impl.ClientConfig) { c.Log.Items = someItems(17) }},
		{2, impl.ErrFull, func(c *impl.Client, k *impl.ClientConfig) { c.Log.Base = 8995 }},
		{3, impl.ErrRange, func(c *impl.Client, k *impl.ClientConfig) { c.Timer.Rto = 49 }},
		{3, impl.ErrRange, func(c *impl.Client, k *impl.ClientConfig) { c.Timer.Mean = 5001 }},
		{3, impl.ErrState, func(c *impl.Client, k *impl.ClientConfig) { c.Timer.Known = false }},
		{4, impl.ErrRange, func(c *impl.Client, k *impl.ClientConfig) { c.Replay.Top = 41 }},
		{4, impl.ErrForm, func(c *impl.Client, k *impl.ClientConfig) { c.Replay.Seen = []int64{30, 30, 40} }},
		{4, impl.ErrState, func(c *impl.Client, k *impl.ClientConfig) { c.Replay.Seen = []int64{30, 39} }},
		{4, impl.ErrState, func(c *impl.Client, k *impl.ClientConfig) { c.Replay.Seen = nil }},
	}
	for _, code := range itemCodes {
		faults = append(faults, clientFault{2, code, func(c *impl.Client, k *impl.ClientConfig) { c.Log.Items[5] = faultyItems()[code][0] }})
	}
	return faults
}

func TestFaultsOfTheParts(t *testing.T) {
	for n, one := range clientFaults() {
		c, k := busyClient(), busyConfig()
		one.spoil(&c, &k)
		wantBadClient(t, fmt.Sprintf("fault %d, in part %d", n, one.part), c, k, one.code)
	}
	c, k := busyClient(), busyConfig()
	for room := int64(1); room <= 16; room++ {
		k.Room = room
		if room < 6 {
			wantBadClient(t, fmt.Sprint("6 items and the room ", room), c, k, impl.ErrMany)
			continue
		}
		wantGoodClient(t, fmt.Sprint("6 items and the room ", room), c, k)
	}
}

func TestTwoFaultsOfAClient(t *testing.T) {
	for n, first := range clientFaults() {
		for m, second := range clientFaults() {
			if first.part >= second.part {
				continue
			}
			c, k := busyClient(), busyConfig()
			first.spoil(&c, &k)
			second.spoil(&c, &k)
			wantBadClient(t, fmt.Sprintf("fault %d in part %d and fault %d in part %d", n, first.part, m, second.part), c, k, first.code)
		}
	}
}

func TestTypedIsBehindAllOthers(t *testing.T) {
	for _, x := range []impl.Item{keyOf("a"), keyOf("12345678"), keyOf("\x00"), sizeOf(1, 999), sizeOf(80, 24)} {
		for many := range 17 {
			c := changedClient(func(c *impl.Client) { c.Log.Items = someItems(many) })
			if many == 16 {
				wantClientFault(t, "TypeClient into a full log", impl.TypeClient(c, busyConfig(), x), impl.ErrFull)
				continue
			}
			want := changedClient(func(c *impl.Client) { c.Log.Items = append(someItems(many), x) })
			wantQuiet(t, fmt.Sprintf("TypeClient behind %d items", many), impl.TypeClient(c, busyConfig(), x), want)
		}
	}
}

func TestTypeUpToEveryRoom(t *testing.T) {
	for room := int64(1); room <= 16; room++ {
		k := clientConfigOf(room, 0)
		c := impl.NewClient(k).Client
		want := cloneClient(c)
		for _, x := range someItems(int(room)) {
			want.Log.Items = append(want.Log.Items, x)
			got := impl.TypeClient(c, k, x)
			wantQuiet(t, fmt.Sprintf("TypeClient with the room %d", room), got, want)
			c = got.Client
		}
		for range 3 {
			wantClientFault(t, fmt.Sprintf("TypeClient with the room %d all taken", room), impl.TypeClient(c, k, keyOf("x")), impl.ErrFull)
		}
		if !isClient(c, want) {
			t.Errorf("the room %d: what was refused has changed the client", room)
		}
		c = impl.HearClient(c, k, sealedReply(0, 1, 5, impl.NoStamp)).Client
		if got := impl.TypeClient(c, k, keyOf("x")); got.Code != impl.OK || !isLog(got.Client.Log, 1, append(someItems(int(room))[1:], keyOf("x"))) {
			t.Errorf("the room %d: TypeClient behind a reply: %+v", room, got)
		}
	}
}

func TestTypeAnItemWithAFault(t *testing.T) {
	full := changedClient(func(c *impl.Client) { c.Log.Items = someItems(16) })
	last := changedClient(func(c *impl.Client) { c.Log.Base = 8994 })
	for code, items := range faultyItems() {
		for _, x := range items {
			name := fmt.Sprintf("TypeClient of %+v", x)
			for _, c := range []impl.Client{busyClient(), full, last, impl.NewClient(busyConfig()).Client} {
				wantClientFault(t, name, impl.TypeClient(c, busyConfig(), x), code)
				c.State = impl.StExhausted
				wantClientFault(t, name+" when it is exhausted", impl.TypeClient(c, busyConfig(), x), code)
			}
		}
	}
	for _, n := range outOfCells {
		wantClientFault(t, fmt.Sprint("TypeClient of Cols ", n), impl.TypeClient(busyClient(), busyConfig(), sizeOf(n, 1)), impl.ErrRange)
	}
	for _, kind := range otherKinds {
		wantClientFault(t, fmt.Sprint("TypeClient of the kind ", kind), impl.TypeClient(busyClient(), busyConfig(), impl.Item{Kind: kind}), impl.ErrForm)
	}
}

func TestTypeAtTheLastOffset(t *testing.T) {
	for many := range 17 {
		for _, room := range []int64{int64(max(many, 1)), 16} {
			k := clientConfigOf(room, 7)
			c := changedClient(func(c *impl.Client) { c.Log = logOf(9000-int64(many), someItems(many)...) })
			want := cloneClient(c)
			want.State = impl.StExhausted
			got := impl.TypeClient(c, k, keyOf("x"))
			wantQuiet(t, fmt.Sprintf("TypeClient behind %d items at the last offset, with the room %d", many, room), got, want)
			wantClientFault(t, "TypeClient then", impl.TypeClient(got.Client, k, keyOf("x")), impl.ErrState)
			wantClientFault(t, "TypeClient of a fault then", impl.TypeClient(got.Client, k, keyOf("")), impl.ErrMany)
			wantGoodClient(t, "a client at the last offset", got.Client, k)
		}
	}
	c := changedClient(func(c *impl.Client) { c.Log = logOf(8998, keyOf("a")) })
	c = impl.TypeClient(c, busyConfig(), keyOf("b")).Client
	want := changedClient(func(c *impl.Client) { c.Log = logOf(8998, keyOf("a"), keyOf("b")) })
	wantQuiet(t, "an item with the offset 8999", impl.ClientResult{Client: c}, want)
	want.State = impl.StExhausted
	wantQuiet(t, "no item with the offset 9000", impl.TypeClient(c, busyConfig(), keyOf("c")), want)
}

func TestTypeWhenExhausted(t *testing.T) {
	for many := range 17 {
		c := changedClient(func(c *impl.Client) { c.Log.Items, c.State = someItems(many), impl.StExhausted })
		for _, x := range []impl.Item{keyOf("a"), sizeOf(80, 24)} {
			wantClientFault(t, fmt.Sprintf("TypeClient behind %d items when it is exhausted", many), impl.TypeClient(c, busyConfig(), x), impl.ErrState)
		}
	}
}

func TestTicksOutOfBounds(t *testing.T) {
	for _, state := range []int64{impl.StLive, impl.StExhausted} {
		for _, now := range []int64{69900, 70000, 994999, 995000, 1000000} {
			c := changedClient(func(c *impl.Client) { c.Now, c.State = now, state })
			for _, ms := range outOfTicks {
				wantClientFault(t, fmt.Sprintf("TickClient of %d at %d", ms, now), impl.TickClient(c, busyConfig(), ms), impl.ErrRange)
			}
		}
	}
}

func TestTicksUpToTheEndOfTheClock(t *testing.T) {
	for _, state := range []int64{impl.StLive, impl.StExhausted} {
		for _, ms := range someTicks {
			c := changedClient(func(c *impl.Client) { c.Now, c.Sent, c.State = 1000000-ms, 1000000-ms, state })
			got := impl.TickClient(c, busyConfig(), ms)
			wantClient(t, fmt.Sprintf("TickClient of %d up to the end", ms), got, trueTickClient(c, busyConfig(), ms))
			if got.Code != impl.OK || got.Client.Now != 1000000 {
				t.Errorf("TickClient of %d up to the end: code %d, Now %d", ms, got.Code, got.Client.Now)
			}
			c.Now++
			if ms > 0 {
				wantClientFault(t, fmt.Sprintf("TickClient of %d over the end", ms), impl.TickClient(c, busyConfig(), ms), impl.ErrRange)
			}
		}
		c := changedClient(func(c *impl.Client) { c.Now, c.State = 1000000, state })
		wantClientFault(t, "TickClient at the end", impl.TickClient(c, busyConfig(), 1), impl.ErrRange)
		wantClient(t, "TickClient of 0 at the end", impl.TickClient(c, busyConfig(), 0), trueTickClient(c, busyConfig(), 0))
	}
}

// wantTick asks for a packet or for none, whether it is the tick or the clock ahead of it by which so much has passed since Sent.
func wantTick(t *testing.T, name string, c impl.Client, ago int64, sends bool) {
	t.Helper()
	for _, ms := range []int64{0, 1, ago / 2, ago} {
		if ms > ago || ms > 5000 {
			continue
		}
		c.Now = max(c.Sent, 0) + ago - ms
		got := impl.TickClient(c, busyConfig(), ms)
		wantClient(t, fmt.Sprintf("TickClient of %d: %s, %d ago", ms, name, ago), got, trueTickClient(c, busyConfig(), ms))
		if len(got.Packet) > 0 != sends || got.Client.Now != c.Now+ms {
			t.Errorf("TickClient of %d: %s, %d ago: Now %d, a packet of %d bytes", ms, name, ago, got.Client.Now, len(got.Packet))
		}
		if want := c.Seq; sends && got.Client.Seq != want+1 || !sends && got.Client.Seq != want {
			t.Errorf("TickClient of %d: %s, %d ago: Seq %d behind %d", ms, name, ago, got.Client.Seq, want)
		}
	}
}

func TestGroundsToSend(t *testing.T) {
	for _, timer := range []impl.Timer{{Rto: 1000}, {Rto: 50}, known(100, 50, 300), known(0, 0, 50), known(5000, 5000, 1000), known(3000, 0, 999)} {
		never := changedClient(func(c *impl.Client) { c.Sent, c.Timer, c.Log.Items = -1, timer, nil })
		sent := changedClient(func(c *impl.Client) { c.Timer, c.Log.Items = timer, nil })
		for _, ago := range []int64{0, 1, 49, 50, 300, 999, 1000, 2998, 2999, 3000, 3001, 5000, 8000} {
			wantTick(t, "never sent and nothing to say", never, ago, false)
			wantTick(t, "nothing to say", sent, ago, ago >= 3000)
			for many := 1; many <= 16; many += 3 {
				never.Log.Items, sent.Log.Items = someItems(many), someItems(many)
				wantTick(t, fmt.Sprintf("never sent and %d to say", many), never, ago, true)
				wantTick(t, fmt.Sprintf("%d to say", many), sent, ago, ago >= timer.Rto)
			}
			never.Log.Items, sent.Log.Items = nil, nil
		}
		sent.Log.Items = someItems(1)
		wantTick(t, "one below the Rto", sent, timer.Rto-1, false)
		wantTick(t, "the Rto", sent, timer.Rto, true)
		wantTick(t, "one above the Rto", sent, timer.Rto+1, true)
		sent.Log.Items = nil
		wantTick(t, "nothing to say at the Rto", sent, timer.Rto, false)
		wantTick(t, "one below Heartbeat", sent, 2999, false)
		wantTick(t, "Heartbeat", sent, 3000, true)
		wantTick(t, "one above Heartbeat", sent, 3001, true)
	}
	for _, now := range []int64{0, 2998, 2999, 3000, 3001, 995000} {
		c := changedClient(func(c *impl.Client) { c.Now, c.Sent, c.Log.Items = now, -1, nil })
		want := cloneClient(c)
		want.Now = now + 5000
		wantQuiet(t, "TickClient of one that never sent and has nothing to say", impl.TickClient(c, busyConfig(), 5000), want)
	}
	// What was sent at 0 was not never sent.
	c := changedClient(func(c *impl.Client) { c.Sent = 0 })
	wantTick(t, "sent at 0", c, 299, false)
	wantTick(t, "sent at 0", c, 300, true)
}

func TestWhatAPacketOfATickSays(t *testing.T) {
	for many := range 17 {
		for _, base := range []int64{0, 1, 256, 4500, 9000 - int64(many)} {
			for _, echo := range []int64{0, 1, 65535, 65536} {
				c := changedClient(func(c *impl.Client) { c.Log, c.Echo, c.Sent = logOf(base, someItems(many)...), echo, 60000 })
				got := impl.TickClient(c, busyConfig(), 536)
				name := fmt.Sprintf("a packet of %d items from %d on, with the echo %d", many, base, echo)
				opened := impl.OpenPacket(countedKey(), got.Packet)
				if opened.Code != impl.OK || opened.Side != impl.SideClient || opened.Seq != 42 {
					t.Fatalf("%s: %+v", name, opened)
				}
				wantBody(t, name, impl.DecodeBody(opened.Plain), bodyOf(base, 5000, echo, someItems(many)[:min(many, 4)]...))
				want := cloneClient(c)
				want.Now, want.Sent, want.Seq = 70536, 70536, 43
				wantClient(t, name, got, impl.ClientResult{Client: want, Packet: got.Packet})
				wantClient(t, name, got, trueTickClient(c, busyConfig(), 536))
			}
		}
	}
}

func TestStampsOfPackets(t *testing.T) {
	for _, now := range someClocks {
		c := changedClient(func(c *impl.Client) { c.Now, c.Sent = now, -1 })
		got := impl.TickClient(c, busyConfig(), 0)
		if b, ok := trueBody(trueOpened(countedKey(), got.Packet).Plain); !ok || b.Stamp != now%65536 {
			t.Errorf("the packet at %d says %+v", now, b)
		}
		wantClient(t, fmt.Sprint("TickClient at ", now), got, trueTickClient(c, busyConfig(), 0))
	}
}

func TestLongestPackets(t *testing.T) {
	c := changedClient(func(c *impl.Client) {
		c.Log, c.Sent = logOf(8984, slices.Repeat([]impl.Item{keyOf("12345678")}, 16)...), -1
	})
	got := impl.TickClient(c, busyConfig(), 0)
	wantClient(t, "TickClient with the longest items", got, trueTickClient(c, busyConfig(), 0))
	if len(got.Packet) != 5+10+4*10+8 {
		t.Errorf("the longest packet has %d bytes", len(got.Packet))
	}
}

func TestKeyOfTheConfigSeals(t *testing.T) {
	for _, seed := range []byte{0, 1, 255} {
		k := busyConfig()
		k.Key = countedBytes(32, seed)
		c := changedClient(func(c *impl.Client) { c.Sent = -1 })
		got := impl.TickClient(c, k, 0)
		wantClient(t, "TickClient with another key", got, trueTickClient(c, k, 0))
		if impl.OpenPacket(k.Key, got.Packet).Code != impl.OK || impl.OpenPacket(countedKey(), got.Packet).Code != impl.ErrSum {
			t.Errorf("the packet is not sealed by the key with the seed %d", seed)
		}
	}
}

func TestTickAtTheLastNumber(t *testing.T) {
	for _, many := range []int{0, 1, 6} {
		for _, seq := range []int64{9998, 9999} {
			c := changedClient(func(c *impl.Client) { c.Seq, c.Log.Items = seq, someItems(many) })
			got := impl.TickClient(c, busyConfig(), 5000)
			wantClient(t, fmt.Sprint("TickClient at Seq ", seq), got, trueTickClient(c, busyConfig(), 5000))
			if opened := trueOpened(countedKey(), got.Packet); opened.Seq != seq || got.Client.Seq != seq+1 || got.Client.State != impl.StLive {
				t.Errorf("TickClient at Seq %d: %+v", seq, got)
			}
		}
		c := changedClient(func(c *impl.Client) { c.Seq, c.Log.Items = 10000, someItems(many) })
		want := cloneClient(c)
		want.Now, want.State = 75000, impl.StExhausted
		wantQuiet(t, "TickClient with no number left", impl.TickClient(c, busyConfig(), 5000), want)
		want.Now, want.State = 70199, impl.StLive
		wantQuiet(t, "TickClient with no number left and no ground", impl.TickClient(c, busyConfig(), 199), want)
		c.Sent, want.Sent, want.Now, want.State = -1, -1, 70000, impl.StExhausted
		if many == 0 {
			want.State = impl.StLive
		}
		wantQuiet(t, "TickClient of one that never sent, with no number left", impl.TickClient(c, busyConfig(), 0), want)
	}
}

func TestTickWhenExhausted(t *testing.T) {
	for _, many := range []int{0, 1, 16} {
		for _, seq := range []int64{0, 42, 9999, 10000} {
			for _, sent := range []int64{-1, 0, 70000} {
				c := changedClient(func(c *impl.Client) {
					c.Seq, c.Sent, c.Log.Items, c.State = seq, sent, someItems(many), impl.StExhausted
				})
				for _, ms := range someTicks {
					want := cloneClient(c)
					want.Now += ms
					wantQuiet(t, fmt.Sprintf("TickClient of %d when it is exhausted", ms), impl.TickClient(c, busyConfig(), ms), want)
				}
			}
		}
	}
}

func TestKnownReplyIsHeard(t *testing.T) {
	want := changedClient(func(c *impl.Client) {
		c.Log, c.Timer, c.Replay, c.Echo = logOf(9, someItems(6)[2:]...), known(112, 62, 360), replayOf(41, 30, 38, 40, 41), 33
	})
	// 70000 has the stamp 4464, and 4264 is the one from 200 ms ahead of it.
	wantHeard(t, "a reply", busyClient(), sealedReply(41, 9, 33, 4264), impl.ClientResult{Client: want})
	fresh := impl.NewClient(busyConfig()).Client
	want = cloneClient(fresh)
	want.Replay, want.Echo = replayOf(0, 0), 65535
	wantHeard(t, "a reply to a new client", fresh, sealedReply(0, 0, 65535, 65536), impl.ClientResult{Client: want})
	want.Timer = impl.Timer{Known: true, Rto: 50}
	wantHeard(t, "a reply to a new client with an echo", fresh, sealedReply(0, 0, 65535, 0), impl.ClientResult{Client: want})
}

func TestAcksInALog(t *testing.T) {
	for many := range 17 {
		for _, base := range []int64{0, 1, 7, 4500, 9000 - int64(many)} {
			c := changedClient(func(c *impl.Client) { c.Log = logOf(base, someItems(many)...) })
			behind := base + int64(many)
			for ack := max(base-3, 0); ack <= min(behind+3, 9000); ack++ {
				name := fmt.Sprintf("Ack %d of %d items from %d on", ack, many, base)
				packet := sealedReply(41, ack, 33, 65536)
				if ack > behind {
					wantUnheard(t, name, c, packet, impl.ErrRange)
					continue
				}
				want := cloneClient(c)
				want.Replay, want.Echo = replayOf(41, 30, 38, 40, 41), 33
				if ack >= base {
					want.Log = logOf(ack, someItems(many)[ack-base:]...)
				}
				wantHeard(t, name, c, packet, impl.ClientResult{Client: want})
			}
			for _, ack := range []int64{0, 9000} {
				packet := sealedReply(41, ack, 33, 4264)
				wantClient(t, fmt.Sprint("Ack ", ack), impl.HearClient(c, busyConfig(), packet), trueHearClient(c, busyConfig(), packet))
			}
		}
	}
}

func TestWhatHasPassedIsSampled(t *testing.T) {
	for _, timer := range []impl.Timer{{Rto: 1000}, {Rto: 50}, known(100, 50, 300), known(0, 0, 50), known(5000, 5000, 1000)} {
		for _, now := range []int64{69900, 70000, 131071, 131072, 999999, 1000000} {
			c := changedClient(func(c *impl.Client) { c.Now, c.Timer = now, timer })
			for _, passed := range []int64{0, 1, 200, 4999, 5000, 5001, 5002, 32768, 65534, 65535} {
				want := cloneClient(c)
				want.Replay, want.Echo = replayOf(41, 30, 38, 40, 41), 33
				if passed <= 5000 {
					want.Timer = trueSample(timer, passed)
				}
				wantHeard(t, fmt.Sprintf("%d ms at %d", passed, now), c, sealedReply(41, 7, 33, (now-passed)%65536), impl.ClientResult{Client: want})
			}
			want := cloneClient(c)
			want.Replay, want.Echo = replayOf(41, 30, 38, 40, 41), 33
			wantHeard(t, fmt.Sprintf("NoStamp at %d", now), c, sealedReply(41, 7, 33, 65536), impl.ClientResult{Client: want})
		}
	}
	// Behind the first round of stamps an echo may seem to come from ahead of the clock's start.
	c := changedClient(func(c *impl.Client) { c.Now, c.Sent = 10, 0 })
	for echo, isSampled := range map[int64]bool{0: true, 10: true, 11: false, 65535: true, 60546: true, 60545: false} {
		got := impl.HearClient(c, busyConfig(), sealedReply(41, 7, 33, echo))
		wantClient(t, fmt.Sprint("the echo ", echo), got, trueHearClient(c, busyConfig(), sealedReply(41, 7, 33, echo)))
		if (got.Client.Timer != c.Timer) != isSampled {
			t.Errorf("the echo %d at 10: %+v", echo, got.Client.Timer)
		}
	}
}

func TestEveryEdgeOfAReply(t *testing.T) {
	c := busyClient()
	for _, ack := range append([]int64{6, 7, 8, 12, 13, 14}, someOffsets...) {
		for _, stamp := range someStamps {
			for _, echo := range someEchoes {
				for _, seq := range []int64{0, 8, 9, 10, 39, 40, 41, 72, 9999} {
					packet := sealedReply(seq, ack, stamp, echo)
					wantClient(t, fmt.Sprintf("the reply %d of %d, %d and %d", seq, ack, stamp, echo), impl.HearClient(c, busyConfig(), packet), trueHearClient(c, busyConfig(), packet))
				}
			}
		}
	}
}

func TestNumbersOfRepliesAreTakenOnce(t *testing.T) {
	for seq := range int64(120) {
		packet := sealedReply(seq, 7, 33, 65536)
		switch {
		case seq <= 8, slices.Contains([]int64{9, 30, 38, 40}, seq):
			wantUnheard(t, fmt.Sprint("the number ", seq), busyClient(), packet, impl.ErrOld)
		case seq < 40:
			seen := []int64{9, 30, 38, 40, seq}
			slices.Sort(seen)
			want := changedClient(func(c *impl.Client) { c.Replay = replayOf(40, seen...) })
			wantHeard(t, fmt.Sprint("the number ", seq), busyClient(), packet, impl.ClientResult{Client: want})
		default:
			got := impl.HearClient(busyClient(), busyConfig(), packet)
			wantClient(t, fmt.Sprint("the number ", seq), got, trueHearClient(busyClient(), busyConfig(), packet))
			if got.Client.Replay.Top != seq || got.Client.Echo != 33 {
				t.Errorf("the number %d: %+v", seq, got)
			}
			wantUnheard(t, fmt.Sprintf("the number %d twice", seq), got.Client, packet, impl.ErrOld)
		}
	}
	fresh := impl.NewClient(busyConfig()).Client
	for _, seq := range goodSeqs {
		got := impl.HearClient(fresh, busyConfig(), sealedReply(seq, 0, 33, 65536))
		if got.Code != impl.OK || !isReplay(got.Client.Replay, seq, []int64{seq}) || got.Client.Echo != 33 {
			t.Errorf("the first number %d: %+v", seq, got)
		}
	}
}

// Replies come in each order: the Echo is told of the newest, the log is cut off as far as any of them told.
func TestRepliesInEveryOrder(t *testing.T) {
	orders := [][]int64{{50, 51, 52}, {50, 52, 51}, {51, 50, 52}, {51, 52, 50}, {52, 50, 51}, {52, 51, 50}}
	for _, order := range orders {
		c, newest := busyClient(), int64(0)
		for _, seq := range order {
			got := impl.HearClient(c, busyConfig(), sealedReply(seq, seq-42, 1000+seq, 4464-10*(seq-49)))
			newest = max(newest, seq)
			if got.Code != impl.OK || got.Client.Echo != 1000+newest || got.Client.Log.Base != newest-42 || got.Client.Replay.Top != newest {
				t.Errorf("the reply %d of %v: %+v", seq, order, got)
			}
			// Those that were overtaken are samples, too.
			if want := trueSample(c.Timer, 10*(seq-49)); got.Client.Timer != want {
				t.Errorf("the reply %d of %v: %+v; want %+v", seq, order, got.Client.Timer, want)
			}
			c = got.Client
		}
		if !isReplay(c.Replay, 52, []int64{30, 38, 40, 50, 51, 52}) || !isLog(c.Log, 10, someItems(6)[3:]) {
			t.Errorf("behind all of %v: %+v", order, c)
		}
	}
	// One that was overtaken may tell of more: what it tells is taken, but for its Stamp.
	want := changedClient(func(c *impl.Client) {
		c.Log, c.Timer, c.Replay = logOf(13), known(112, 62, 360), replayOf(40, 9, 30, 38, 39, 40)
	})
	wantHeard(t, "an old reply with a new Ack", busyClient(), sealedReply(39, 13, 33, 4264), impl.ClientResult{Client: want})
	want.Log = busyClient().Log
	wantHeard(t, "an old reply with an old Ack", busyClient(), sealedReply(39, 6, 33, 4264), impl.ClientResult{Client: want})
}

func TestHeardWhenExhausted(t *testing.T) {
	c := changedClient(func(c *impl.Client) { c.State, c.Seq = impl.StExhausted, 10000 })
	want := changedClient(func(c *impl.Client) {
		c.State, c.Seq = impl.StExhausted, 10000
		c.Log, c.Timer, c.Replay, c.Echo = logOf(13), known(112, 62, 360), replayOf(41, 30, 38, 40, 41), 33
	})
	wantHeard(t, "a reply when it is exhausted", c, sealedReply(41, 13, 33, 4264), impl.ClientResult{Client: want})
	wantUnheard(t, "a reply too far when it is exhausted", c, sealedReply(41, 14, 33, 4264), impl.ErrRange)
}

func TestPacketsByAnotherKey(t *testing.T) {
	plain := trueReplyBytes(replyOf(9, 33, 4264))
	for seed := range 256 {
		other := countedBytes(32, byte(seed))
		wantUnheard(t, fmt.Sprint("a packet by the key with the seed ", seed), busyClient(), trueSealed(other, 1, 41, plain), impl.ErrSum)
	}
	for place := range 32 {
		other := countedKey()
		other[place] ^= 1
		wantUnheard(t, "a packet by a key with one bit changed", busyClient(), trueSealed(other, 1, 41, plain), impl.ErrSum)
	}
}

func TestPacketsThatAreCutOffOrChanged(t *testing.T) {
	packet := sealedReply(41, 9, 33, 4264)
	for n := range packet {
		code := int64(impl.ErrSum)
		if n < 13 {
			code = impl.ErrMany
		}
		wantUnheard(t, fmt.Sprintf("the first %d bytes", n), busyClient(), packet[:n], code)
		wantUnheard(t, fmt.Sprintf("the first %d bytes, with no room behind", n), busyClient(), packet[:n:n], code)
	}
	for place := range packet {
		for change := 1; change < 256; change++ {
			changed := slices.Clone(packet)
			changed[place] ^= byte(change)
			got := impl.HearClient(busyClient(), busyConfig(), changed)
			if got.Code == impl.OK {
				t.Fatalf("%v is heard", changed)
			}
			wantClient(t, fmt.Sprint("HearClient of ", changed), got, trueHearClient(busyClient(), busyConfig(), changed))
		}
	}
	for n := range 130 {
		code := int64(impl.ErrSum)
		if len(packet)+n+1 > 133 {
			code = impl.ErrMany
		}
		wantUnheard(t, fmt.Sprintf("%d bytes more", n+1), busyClient(), append(slices.Clone(packet), make([]byte, n+1)...), code)
	}
	wantUnheard(t, "nothing", busyClient(), nil, impl.ErrMany)
	wantUnheard(t, "an empty packet", busyClient(), []byte{}, impl.ErrMany)
	wantUnheard(t, "very many bytes", busyClient(), make([]byte, 1<<20), impl.ErrMany)
}

func TestPacketsOfTheWrongSide(t *testing.T) {
	own := impl.TickClient(changedClient(func(c *impl.Client) { c.Sent = -1 }), busyConfig(), 0).Packet
	wantUnheard(t, "its own packet", busyClient(), own, impl.ErrState)
	for _, seq := range []uint32{0, 8, 9, 40, 41, 9999} {
		for _, plain := range [][]byte{nil, {1}, trueReplyBytes(replyOf(9, 33, 4264)), trueReplyBytes(replyOf(9000, 33, 4264))} {
			wantUnheard(t, "a packet of the wrong side", busyClient(), trueSealed(countedKey(), 0, seq, plain), impl.ErrState)
		}
	}
}

func TestPacketsThatSayNoReply(t *testing.T) {
	reply := trueReplyBytes(replyOf(9, 33, 4264))
	texts := [][]byte{nil, reply[:8], reply[1:], append(slices.Clone(reply), 0), trueBodyBytes(bodyOf(9, 33, 4264)), trueStart(9001, 33, 4264), trueStart(9, 33, 65537)}
	for n := range 121 {
		texts = append(texts, bytes.Repeat([]byte{255}, n))
		if n != 9 {
			texts = append(texts, make([]byte, n))
		}
	}
	for _, text := range texts {
		for _, seq := range []uint32{10, 39, 41, 9999} {
			wantUnheard(t, fmt.Sprint("the plain ", text), busyClient(), trueSealed(countedKey(), 1, seq, text), impl.ErrText)
		}
		wantUnheard(t, fmt.Sprintf("the plain %v, taken already", text), busyClient(), trueSealed(countedKey(), 1, 40, text), impl.ErrOld)
		wantUnheard(t, fmt.Sprintf("the plain %v, too old", text), busyClient(), trueSealed(countedKey(), 1, 8, text), impl.ErrOld)
	}
}

func TestPacketsWithTwoFaults(t *testing.T) {
	far := trueReplyBytes(replyOf(14, 33, 4264))
	wantUnheard(t, "too old, and too far", busyClient(), trueSealed(countedKey(), 1, 8, far), impl.ErrOld)
	wantUnheard(t, "taken already, and too far", busyClient(), trueSealed(countedKey(), 1, 40, far), impl.ErrOld)
	wantUnheard(t, "too far alone", busyClient(), trueSealed(countedKey(), 1, 10, far), impl.ErrRange)
	wantUnheard(t, "the wrong side, by another key", busyClient(), trueSealed(countedBytes(32, 9), 0, 41, far), impl.ErrSum)
	wantUnheard(t, "taken already, by another key", busyClient(), trueSealed(countedBytes(32, 9), 1, 40, far), impl.ErrSum)
	wantUnheard(t, "no reply, by another key", busyClient(), trueSealed(countedBytes(32, 9), 1, 41, nil), impl.ErrSum)
	for _, head := range [][]byte{trueHead(2, 41), trueHead(1, 10000), trueHead(255, 1<<31)} {
		wantUnheard(t, "no head", busyClient(), tagged(countedKey(), append(head, far...)), impl.ErrText)
		wantUnheard(t, "no head, and no tag", busyClient(), append(head, far...), impl.ErrText)
		wantUnheard(t, "no head, and too many bytes", busyClient(), append(head, make([]byte, 129)...), impl.ErrMany)
	}
}

// A number is taken only if all that was heard with it is: what is refused leaves it free.
func TestRefusedRepliesLeaveTheirNumber(t *testing.T) {
	c := busyClient()
	wantUnheard(t, "too far", c, sealedReply(41, 14, 33, 4264), impl.ErrRange)
	wantUnheard(t, "no reply", c, trueSealed(countedKey(), 1, 41, nil), impl.ErrText)
	got := impl.HearClient(c, busyConfig(), sealedReply(41, 13, 33, 4264))
	if got.Code != impl.OK || got.Client.Log.Base != 13 || got.Client.Replay.Top != 41 {
		t.Errorf("behind what was refused: %+v", got)
	}
}

func TestOneClientByHand(t *testing.T) {
	k := clientConfigOf(2, 9998)
	c := impl.NewClient(k).Client
	c = impl.TypeClient(c, k, keyOf("a")).Client
	first := impl.TickClient(c, k, 0)
	early := impl.TickClient(first.Client, k, 999)
	second := impl.TickClient(early.Client, k, 1)
	third := impl.TickClient(second.Client, k, 1000)
	item := keyOf("a")
	if p := trueOpened(k.Key, first.Packet); p.Seq != 9998 || !bytes.Equal(p.Plain, trueBodyBytes(bodyOf(0, 0, 65536, item))) || first.Client.Sent != 0 {
		t.Errorf("the first packet: %+v", first)
	}
	if len(early.Packet) != 0 || early.Client.Now != 999 || early.Client.Seq != 9999 {
		t.Errorf("a tick too early: %+v", early)
	}
	if p := trueOpened(k.Key, second.Packet); p.Seq != 9999 || !bytes.Equal(p.Plain, trueBodyBytes(bodyOf(0, 1000, 65536, item))) || second.Client.State != impl.StLive {
		t.Errorf("the second packet: %+v", second)
	}
	want := cloneClient(second.Client)
	want.Now, want.State = 2000, impl.StExhausted
	wantQuiet(t, "a tick with no number left", third, want)
	want.Now = 7000
	wantQuiet(t, "a tick then", impl.TickClient(third.Client, k, 5000), want)
	wantClientFault(t, "what is typed then", impl.TypeClient(third.Client, k, keyOf("b")), impl.ErrState)
	want.Now, want.Log, want.Timer, want.Replay, want.Echo = 2000, logOf(1), known(1000, 500, 1000), replayOf(5, 5), 77
	wantQuiet(t, "a reply then", impl.HearClient(third.Client, k, sealedReply(5, 1, 77, 1000)), want)
}

func TestEveryNumberIsSentOnce(t *testing.T) {
	k := clientConfigOf(1, 0)
	c := impl.TypeClient(impl.NewClient(k).Client, k, keyOf("a")).Client
	for seq := range int64(10000) {
		// The clock alone would come to its end ahead of the numbers.
		c.Now, c.Sent = 0, -1
		got := impl.TickClient(c, k, 0)
		if head := impl.HeadOf(got.Packet); got.Code != impl.OK || head.Seq != seq || head.Side != impl.SideClient || got.Client.Seq != seq+1 {
			t.Fatalf("the packet %d: %+v", seq, got)
		}
		c = got.Client
	}
	c.Now, c.Sent = 0, -1
	got := impl.TickClient(c, k, 0)
	if got.Code != impl.OK || len(got.Packet) != 0 || got.Client.State != impl.StExhausted || got.Client.Seq != 10000 {
		t.Errorf("behind the last number: %+v", got)
	}
}

func TestEveryEdgeOfATick(t *testing.T) {
	for _, state := range []int64{impl.StLive, impl.StExhausted} {
		for _, seq := range []int64{0, 5, 9998, 9999, 10000} {
			for _, many := range []int{0, 1, 3, 4, 5, 16} {
				for _, rto := range []int64{50, 300, 1000} {
					for _, sent := range []int64{-1, 0, 60000, 65535} {
						c := impl.Client{Seq: seq, Log: logOf(9000-int64(many), someItems(many)...), Sent: sent, Timer: impl.Timer{Rto: rto}, Replay: replayOf(-1), Echo: 5, State: state}
						for _, ago := range []int64{0, 1, 49, 50, 51, rto - 1, rto, rto + 1, 2999, 3000, 3001} {
							c.Now = max(sent, 0) + ago
							for _, ms := range []int64{0, 1, 5000} {
								wantClient(t, fmt.Sprintf("TickClient of %+v and %d", c, ms), impl.TickClient(c, busyConfig(), ms), trueTickClient(c, busyConfig(), ms))
							}
						}
					}
				}
			}
		}
	}
}

// pickOf takes mostly what is so, and now and then what is not.
func pickOf(random *rand.Rand, good []int64, bad []int64) int64 {
	if random.IntN(50) == 0 {
		return bad[random.IntN(len(bad))]
	}
	return good[random.IntN(len(good))]
}

func replayByChance(random *rand.Rand) impl.Replay {
	windows := []impl.Replay{replayOf(-1), replayOf(0, 0), replayOf(36, 5, 36), replayOf(9999, 9968, 9999), busyClient().Replay}
	r := windows[random.IntN(len(windows))]
	switch random.IntN(60) {
	case 0:
		r.Top = outOfSeqs[random.IntN(len(outOfSeqs))]
	case 1:
		r.Seen = [][]int64{nil, {4, 36}, {36, 36}, {40, 38, 40}, {5}}[random.IntN(5)]
	}
	return r
}

func clientByChance(random *rand.Rand) (impl.Client, impl.ClientConfig) {
	k := clientConfigOf(pickOf(random, []int64{1, 2, 4, 16, 16, 16}, outOfRooms), pickOf(random, []int64{0, 9999, 10000}, outOfNexts))
	if random.IntN(50) == 0 {
		k.Key = countedBytes(badKeySizes[random.IntN(len(badKeySizes))], 0)
	}
	items := someItems(random.IntN(6))
	for _, code := range itemCodes {
		if faulty := faultyItems()[code]; random.IntN(60) == 0 {
			items = append(items, faulty[random.IntN(len(faulty))])
		}
	}
	now := pickOf(random, someClocks, outOfClocks)
	return impl.Client{
		Now:    now,
		Seq:    pickOf(random, []int64{0, 5, 9999, 10000}, outOfNexts),
		Log:    logOf(pickOf(random, someOffsets, outOfOffsets), items...),
		Sent:   pickOf(random, []int64{-1, 0, now, max(now-1, 0), max(now-300, 0), max(now-3000, 0)}, []int64{-2, now + 1, math.MaxInt64, math.MinInt64}),
		Timer:  impl.Timer{Known: random.IntN(20) > 0, Mean: pickOf(random, someSamples, outOfSamples), Swing: pickOf(random, someSamples, outOfSamples), Rto: pickOf(random, someRtos, outOfRtos)},
		Replay: replayByChance(random),
		Echo:   pickOf(random, someEchoes, outOfEchoes),
		State:  pickOf(random, []int64{1, 1, 1, 2}, outOfStates),
	}, k
}

func TestClientsByChance(t *testing.T) {
	random := rand.New(rand.NewPCG(8, 1))
	faulty, good := 0, 0
	for range 12000 {
		c, k := clientByChance(random)
		wantRightAnswers(t, "by chance", c, k)
		if trueClientFault(c, k) == impl.OK {
			good++
		} else {
			faulty++
		}
		if t.Failed() {
			t.FailNow()
		}
	}
	if min(good, faulty) < 1000 {
		t.Errorf("%d clients have a fault, %d have none", faulty, good)
	}
}

// farEnd takes bodies as they come, and says what a server would: it is not the program's own.
type farEnd struct {
	seq   int64
	got   []impl.Item
	top   int64
	stamp int64
}

func (f *farEnd) replyTo(t *testing.T, packet []byte) []byte {
	t.Helper()
	opened := trueOpened(countedKey(), packet)
	b, ok := trueBody(opened.Plain)
	if !ok || opened.Side != 0 {
		t.Fatalf("the packet %v says nothing", packet)
	}
	if opened.Seq > f.top {
		f.top, f.stamp = opened.Seq, b.Stamp
	}
	for i, x := range b.Items {
		if b.Base+int64(i) == int64(len(f.got)) {
			f.got = append(f.got, x)
		}
	}
	f.seq++
	return sealedReply(f.seq-1, int64(len(f.got)), f.seq%65536, f.stamp)
}

// clientRun has a client, the diary of what it was told to keep, and what is on its way in both directions.
type clientRun struct {
	k      impl.ClientConfig
	c      impl.Client
	diary  diary
	sent   [][]byte
	said   [][]byte
	server farEnd
}

// step does one thing by chance, and holds the answer against the reckoning; what is refused is not gone on with.
func (r *clientRun) step(t *testing.T, random *rand.Rand) {
	t.Helper()
	var got, want impl.ClientResult
	x := someItems(40)[random.IntN(40)]
	ms := []int64{0, 1, 40, 50, 300, 1000, 3000}[random.IntN(7)]
	packet := countedBytes(22, byte(random.IntN(256)))
	switch what := random.IntN(6); {
	case what < 2:
		got, want = impl.TypeClient(r.c, r.k, x), trueTypeClient(r.c, r.k, x)
		if len(got.Client.Log.Items) > len(r.c.Log.Items) {
			r.diary.typed = append(r.diary.typed, x)
		}
	case what < 4:
		got, want = impl.TickClient(r.c, r.k, ms), trueTickClient(r.c, r.k, ms)
		if len(got.Packet) > 0 {
			r.sent = append(r.sent, got.Packet)
		}
	case what == 4 && len(r.sent) > 0:
		// What was sent may come late, twice or never.
		r.said = append(r.said, r.server.replyTo(t, r.sent[len(r.sent)-1-random.IntN(min(5, len(r.sent)))]))
		return
	default:
		if len(r.said) > 0 {
			packet = r.said[len(r.said)-1-random.IntN(min(5, len(r.said)))]
		}
		got, want = impl.HearClient(r.c, r.k, packet), trueHearClient(r.c, r.k, packet)
		if reply, _ := trueReply(trueOpened(r.k.Key, packet).Plain); got.Code == impl.OK {
			r.diary.gone = max(r.diary.gone, int(reply.Ack))
		}
	}
	wantClient(t, "one step of a run", got, want)
	if got.Code == impl.OK {
		r.c = got.Client
	}
}

func TestRunsOfAClient(t *testing.T) {
	for seed := range uint64(12) {
		random := rand.New(rand.NewPCG(8, 100+seed))
		k := clientConfigOf([]int64{1, 2, 5, 16}[seed%4], []int64{0, 9900, 9999, 10000}[seed/4%4])
		r := &clientRun{k: k, c: impl.NewClient(k).Client, server: farEnd{top: -1}}
		for range 1200 {
			r.step(t, random)
			if l := r.diary.log(); !isLog(r.c.Log, l.Base, l.Items) || impl.ClientFault(r.c, k) != impl.OK {
				t.Fatalf("seed %d: %+v; the diary has %+v", seed, r.c, l)
			}
			if t.Failed() {
				t.FailNow()
			}
		}
		for n, packet := range r.sent {
			if head := impl.HeadOf(packet); head.Seq != k.Start+int64(n) || head.Side != impl.SideClient {
				t.Errorf("seed %d: the packet %d has %+v", seed, n, head)
			}
		}
		if !slices.EqualFunc(r.server.got, r.diary.typed[:len(r.server.got)], isItem) || int64(len(r.server.got)) < r.c.Log.Base {
			t.Errorf("seed %d: what has come is not what was typed", seed)
		}
		if seed < 4 && r.c.Log.Base < 30 {
			t.Errorf("seed %d: the run has come only to %d", seed, r.c.Log.Base)
		}
	}
}

// clientsThatDiffer are each one field away from the first one.
func clientsThatDiffer() []impl.Client {
	return []impl.Client{
		busyClient(),
		changedClient(func(c *impl.Client) { c.Now++ }),
		changedClient(func(c *impl.Client) { c.Now += 1 << 32 }),
		changedClient(func(c *impl.Client) { c.Seq++ }),
		changedClient(func(c *impl.Client) { c.Log.Base++ }),
		changedClient(func(c *impl.Client) { c.Log.Items = nil }),
		changedClient(func(c *impl.Client) { c.Log.Items = c.Log.Items[:5] }),
		changedClient(func(c *impl.Client) { c.Log.Items = c.Log.Items[1:] }),
		changedClient(func(c *impl.Client) { c.Log.Items = someItems(7) }),
		changedClient(func(c *impl.Client) { c.Log.Items[0].Kind = 3 }),
		changedClient(func(c *impl.Client) { c.Log.Items[4].Bytes[0]++ }),
		changedClient(func(c *impl.Client) { c.Log.Items[4].Bytes = nil }),
		changedClient(func(c *impl.Client) { c.Log.Items[5].Cols++ }),
		changedClient(func(c *impl.Client) { c.Log.Items[5].Rows-- }),
		changedClient(func(c *impl.Client) { c.Log.Items[0], c.Log.Items[1] = c.Log.Items[1], c.Log.Items[0] }),
		changedClient(func(c *impl.Client) { c.Sent-- }),
		changedClient(func(c *impl.Client) { c.Sent = impl.NeverSent }),
		changedClient(func(c *impl.Client) { c.Timer.Known = false }),
		changedClient(func(c *impl.Client) { c.Timer.Mean++ }),
		changedClient(func(c *impl.Client) { c.Timer.Swing++ }),
		changedClient(func(c *impl.Client) { c.Timer.Rto++ }),
		changedClient(func(c *impl.Client) { c.Replay.Top++ }),
		changedClient(func(c *impl.Client) { c.Replay.Seen = nil }),
		changedClient(func(c *impl.Client) { c.Replay.Seen = c.Replay.Seen[1:] }),
		changedClient(func(c *impl.Client) { c.Replay.Seen[0]++ }),
		changedClient(func(c *impl.Client) { c.Replay.Seen[3] = math.MaxInt64 }),
		changedClient(func(c *impl.Client) { c.Echo++ }),
		changedClient(func(c *impl.Client) { c.Echo = impl.NoStamp }),
		changedClient(func(c *impl.Client) { c.State++ }),
		changedClient(func(c *impl.Client) { c.State = math.MinInt64 }),
		{},
	}
}

func TestSameClients(t *testing.T) {
	for i, a := range clientsThatDiffer() {
		for j, b := range clientsThatDiffer() {
			if impl.SameClients(a, b) != (i == j) {
				t.Errorf("SameClients of the clients %d and %d is not %v", i, j, i == j)
			}
		}
	}
}

func TestEmptyListAndNilOfClientsAlike(t *testing.T) {
	none := changedClient(func(c *impl.Client) { c.Log.Items, c.Replay = nil, replayOf(-1) })
	empty := changedClient(func(c *impl.Client) {
		c.Log.Items, c.Replay = []impl.Item{}, impl.Replay{Top: -1, Seen: []int64{}}
	})
	if !impl.SameClients(none, empty) || !impl.SameClients(empty, none) {
		t.Error("SameClients: nil and an empty list are not the same")
	}
	for _, c := range []impl.Client{none, empty} {
		wantGoodClient(t, "a client of empty lists", c, busyConfig())
	}
	sized := changedClient(func(c *impl.Client) { c.Log.Items[5].Bytes = []byte{} })
	if !impl.SameClients(sized, busyClient()) {
		t.Error("SameClients: nil and no bytes are not the same")
	}
	wantGoodClient(t, "a size with an empty list", sized, busyConfig())
	k := busyConfig()
	k.Key = []byte{}
	wantBadConfig(t, "an empty key", k)
}

// clientGuard is a client with its config as arguments: all their lists are watched.
type clientGuard struct {
	c     impl.Client
	k     impl.ClientConfig
	key   *guard[byte]
	seen  *guard[int64]
	items *itemsGuard
}

func newClientGuard(c impl.Client) *clientGuard {
	g := &clientGuard{c: c, k: busyConfig(), key: newGuard(countedKey()), seen: newGuard(c.Replay.Seen), items: newItemsGuard(c.Log.Items)}
	g.k.Key, g.c.Replay.Seen, g.c.Log.Items = g.key.list(), g.seen.list(), g.items.list()
	return g
}

func (g *clientGuard) mustBeSame(t *testing.T, name string) {
	t.Helper()
	g.key.mustBeSame(t, name)
	g.seen.mustBeSame(t, name)
	g.items.mustBeSame(t, name)
}

func overwriteClient(got impl.ClientResult) {
	overwriteItems(got.Client.Log.Items)
	overwrite(got.Client.Replay.Seen)
	overwrite(got.Packet)
}

func someGuardedClients() []impl.Client {
	return []impl.Client{
		busyClient(),
		{},
		impl.NewClient(busyConfig()).Client,
		changedClient(func(c *impl.Client) { c.Log.Items = someItems(16) }),
		changedClient(func(c *impl.Client) { c.Log.Items = someItems(17) }),
		changedClient(func(c *impl.Client) { c.Log.Items[3] = impl.Item{Kind: 3, Bytes: []byte("a")} }),
		changedClient(func(c *impl.Client) { c.Log.Base = 8994 }),
		changedClient(func(c *impl.Client) { c.Replay.Seen = []int64{40, 30} }),
		changedClient(func(c *impl.Client) { c.Seq = 10000 }),
		changedClient(func(c *impl.Client) { c.State = impl.StExhausted }),
		changedClient(func(c *impl.Client) { c.Timer.Rto = 49 }),
	}
}

func TestClientArgumentsStay(t *testing.T) {
	packets := [][]byte{nil, {1}, sealedReply(41, 7, 33, 4264), sealedReply(41, 9, 33, 4264), sealedReply(39, 13, 33, 65536), sealedReply(40, 9, 33, 4264), sealedReply(41, 14, 33, 4264), trueSealed(countedKey(), 0, 41, nil), make([]byte, 134)}
	for n, c := range someGuardedClients() {
		g := newClientGuard(c)
		impl.ClientConfigFault(g.k)
		impl.ClientFault(g.c, g.k)
		impl.SameClients(g.c, g.c)
		overwriteClient(impl.NewClient(g.k))
		for _, ms := range []int64{0, 300, 5000, 5001, -1} {
			overwriteClient(impl.TickClient(g.c, g.k, ms))
		}
		for _, x := range []impl.Item{keyOf("12345678"), sizeOf(80, 24), {}, keyOf("123456789"), sizeOf(1000, 1)} {
			typed := newItemsGuard([]impl.Item{x})
			overwriteClient(impl.TypeClient(g.c, g.k, typed.list()[0]))
			typed.mustBeSame(t, fmt.Sprintf("TypeClient of %+v with the client %d", x, n))
		}
		for _, heard := range packets {
			packet := newGuard(heard)
			overwriteClient(impl.HearClient(g.c, g.k, packet.list()))
			packet.mustBeSame(t, fmt.Sprintf("HearClient of %v with the client %d", heard, n))
		}
		g.mustBeSame(t, fmt.Sprint("the client ", n))
	}
}

// clientCalls are calls that are answered in all ways, each with memory of its own as arguments, and a way to write into that.
func clientCalls() map[string]func() (impl.ClientResult, func()) {
	calls := map[string]func() (impl.ClientResult, func()){}
	add := func(name string, change func(c *impl.Client), call func(c impl.Client, k impl.ClientConfig, x impl.Item, packet []byte) impl.ClientResult) {
		calls[name] = func() (impl.ClientResult, func()) {
			c, k, x, packet := changedClient(change), busyConfig(), keyOf("x"), sealedReply(41, 9, 33, 4264)
			return call(c, k, x, packet), func() {
				overwriteClient(impl.ClientResult{Client: c, Packet: packet})
				overwrite(k.Key)
				overwrite(x.Bytes)
			}
		}
	}
	typing := func(c impl.Client, k impl.ClientConfig, x impl.Item, packet []byte) impl.ClientResult {
		return impl.TypeClient(c, k, x)
	}
	ticking := func(c impl.Client, k impl.ClientConfig, x impl.Item, packet []byte) impl.ClientResult {
		return impl.TickClient(c, k, 250)
	}
	hearing := func(c impl.Client, k impl.ClientConfig, x impl.Item, packet []byte) impl.ClientResult {
		return impl.HearClient(c, k, packet)
	}
	add("TypeClient", func(c *impl.Client) {}, typing)
	add("TypeClient at the last offset", func(c *impl.Client) { c.Log.Base = 8994 }, typing)
	add("TickClient that sends", func(c *impl.Client) {}, ticking)
	add("TickClient that sends nothing", func(c *impl.Client) { c.Sent = 70000 }, ticking)
	add("TickClient with no number left", func(c *impl.Client) { c.Seq = 10000 }, ticking)
	add("HearClient that cuts off", func(c *impl.Client) {}, hearing)
	add("HearClient that cuts nothing off", func(c *impl.Client) { c.Log.Base = 9 }, hearing)
	add("HearClient of an old Ack", func(c *impl.Client) { c.Log.Base = 10 }, hearing)
	add("HearClient of an old number", func(c *impl.Client) { c.Replay = replayOf(50, 40, 50) }, hearing)
	return calls
}

func TestClientAnswersAreNew(t *testing.T) {
	for name, call := range clientCalls() {
		want, _ := call()
		got, overwriteArguments := call()
		other, _ := call()
		overwriteArguments()
		overwriteClient(other)
		wantClient(t, name+" behind a change of all else", got, want)
		if got.Code != impl.OK {
			t.Errorf("%s: code %d", name, got.Code)
		}
	}
}

// All items that come in share their bytes, so a copy that is not made for each of them is seen.
func TestItemsOfOneClientShareNothing(t *testing.T) {
	for n := range 9 {
		text := strings.Repeat("k", min(n+1, 8))
		x := keyOf(text)
		c := changedClient(func(c *impl.Client) { c.Log.Items = slices.Repeat([]impl.Item{x}, n) })
		mustBeApart(t, "TypeClient", impl.TypeClient(c, busyConfig(), x).Client.Log.Items, text)
		mustBeApart(t, "TickClient", impl.TickClient(c, busyConfig(), 0).Client.Log.Items, text)
		mustBeApart(t, "TickClient that sends", impl.TickClient(c, busyConfig(), 5000).Client.Log.Items, text)
		mustBeApart(t, "HearClient", impl.HearClient(c, busyConfig(), sealedReply(41, 7, 33, 4264)).Client.Log.Items, text)
		mustBeApart(t, "HearClient that cuts off", impl.HearClient(c, busyConfig(), sealedReply(41, 7+min(int64(n), 1), 33, 4264)).Client.Log.Items, text)
		mustBeApart(t, "HearClient of an old Ack", impl.HearClient(c, busyConfig(), sealedReply(41, 6, 33, 4264)).Client.Log.Items, text)
		c.Log.Base = 9000 - int64(n)
		mustBeApart(t, "TypeClient at the last offset", impl.TypeClient(c, busyConfig(), x).Client.Log.Items, text)
		if string(x.Bytes) != text {
			t.Errorf("an answer shares %q with its argument", text)
		}
	}
}

func TestClientAnswersHangOnArgumentsAlone(t *testing.T) {
	k, c := busyConfig(), busyClient()
	for range 20 {
		wantGoodClient(t, "again", c, k)
		wantBadClient(t, "a fault", impl.Client{}, k, impl.ErrRange)
		wantQuiet(t, "NewClient", impl.NewClient(k), impl.Client{Seq: 7, Sent: -1, Timer: impl.Timer{Rto: 1000}, Replay: replayOf(-1), Echo: 65536, State: 1})
		wantUnheard(t, "too far", c, sealedReply(41, 14, 33, 4264), impl.ErrRange)
		// The first packet that is taken leaves nothing behind: it is taken again by the client as it was.
		packet := sealedReply(41, 9, 33, 4264)
		wantHeard(t, "a reply", c, packet, trueHearClient(c, k, packet))
	}
}

func TestClientAnswersAtOneTime(t *testing.T) {
	c, k := busyClient(), busyConfig()
	packet := sealedReply(41, 9, 33, 4264)
	typed, ticked, heard := trueTypeClient(c, k, keyOf("x")), trueTickClient(c, k, 300), trueHearClient(c, k, packet)
	var group sync.WaitGroup
	for range 8 {
		group.Go(func() {
			for range 100 {
				wantClient(t, "TypeClient", impl.TypeClient(c, k, keyOf("x")), typed)
				wantClient(t, "TickClient", impl.TickClient(c, k, 300), ticked)
				wantClient(t, "HearClient", impl.HearClient(c, k, packet), heard)
			}
		})
	}
	group.Wait()
}
