package tests

import (
	"fmt"
	"math"
	"slices"
	"strings"
	"testing"

	"loop.example/g00232/impl"
)

func TestClusterLimits(t *testing.T) {
	got := []int{impl.MaxEvents, impl.EvTick, impl.EvDeliver, impl.EvDrop, impl.EvCopy, impl.EvCall, impl.EvConf, impl.EvSnap, impl.EvDown, impl.EvUp}
	if !slices.Equal(got, []int{60, 1, 2, 3, 4, 5, 6, 7, 8, 9}) {
		t.Errorf("limits are %v", got)
	}
}

func evTick(node, limit int) impl.Happen {
	return impl.Happen{Kind: impl.EvTick, Node: node, Limit: limit}
}

func evDeliver(at int) impl.Happen { return impl.Happen{Kind: impl.EvDeliver, Node: 1, At: at} }

func evDrop(at int) impl.Happen { return impl.Happen{Kind: impl.EvDrop, Node: 1, At: at} }

func evCopy(at int) impl.Happen { return impl.Happen{Kind: impl.EvCopy, Node: 1, At: at} }

func evCall(node int, x impl.Command) impl.Happen {
	return impl.Happen{Kind: impl.EvCall, Node: node, Command: x}
}

func evConf(node int, conf ...int) impl.Happen {
	return impl.Happen{Kind: impl.EvConf, Node: node, Conf: conf}
}

func evSnap(node int) impl.Happen { return impl.Happen{Kind: impl.EvSnap, Node: node} }

func evDown(node int) impl.Happen { return impl.Happen{Kind: impl.EvDown, Node: node} }

func evUp(node, limit int) impl.Happen {
	return impl.Happen{Kind: impl.EvUp, Node: node, Limit: limit}
}

func withCut(e impl.Happen, whole int, left ...int) impl.Happen {
	e.Cut, e.Whole, e.Left = true, whole, left
	return e
}

// eachEvent has a right one of each Kind.
func eachEvent() []impl.Happen {
	return []impl.Happen{evTick(1, 5), evDeliver(0), evDrop(0), evCopy(0), evCall(1, askOpen()), evConf(1, 1), evSnap(1), evDown(1), evUp(1, 5)}
}

// openEvent is right of each Kind.
func openEvent(kind int) impl.Happen {
	return impl.Happen{Kind: kind, Node: 1, Limit: 5, Command: askOpen(), Conf: []int{1}}
}

func wantHappenOk(t *testing.T, nodes int, e impl.Happen, want bool) {
	t.Helper()
	if got := impl.HappenOk(nodes, e); got != want {
		t.Errorf("HappenOk(%d, %.300v) is %v", nodes, e, got)
	}
	if plain := plainHappenOk(nodes, e); plain != want {
		t.Errorf("by the words %d, %.300v is %v", nodes, e, plain)
	}
}

// plainHappenOk goes word by word.
func plainHappenOk(nodes int, e impl.Happen) bool {
	if !within(nodes, 1, 4) || !within(e.Kind, 1, 9) || !within(e.Node, 1, nodes) || e.At < 0 || len(e.Left) > 30 {
		return false
	}
	if (e.Kind == 1 || e.Kind == 9) && !within(e.Limit, 1, 20) || e.Kind == 5 && !plainCommandOk(e.Command) {
		return false
	}
	above := func(id int) bool { return id > nodes }
	return e.Kind != 6 || isRightConf(e.Conf) && !slices.ContainsFunc(e.Conf, above)
}

func TestEventsOfEachKind(t *testing.T) {
	for _, e := range eachEvent() {
		wantHappenOk(t, 1, e, true)
	}
	wantHappenOk(t, 1, impl.Happen{}, false)
	for _, kind := range slices.Concat(oddInts(), []int{6, 7, 8, 9, 10, 11, 256, 257, 265}) {
		wantHappenOk(t, 4, openEvent(kind), within(kind, 1, 9))
		wantHappenOk(t, 4, impl.Happen{Kind: kind, Node: 1}, slices.Contains([]int{2, 3, 4, 7, 8}, kind))
	}
}

func TestEventsOfEachNode(t *testing.T) {
	numbers := slices.Concat(oddInts(), []int{6, 256, 257, 260})
	for kind := 1; kind <= 9; kind++ {
		for _, nodes := range numbers {
			for _, node := range numbers {
				e := openEvent(kind)
				e.Node = node
				wantHappenOk(t, nodes, e, within(nodes, 1, 4) && within(node, 1, nodes))
			}
		}
	}
}

// What a Kind does not ask of may be anything.
func TestEventsOfEachField(t *testing.T) {
	for kind := 1; kind <= 9; kind++ {
		for _, number := range slices.Concat(oddInts(), []int{19, 20, 21, 22, 256, 257, 276}) {
			e := openEvent(kind)
			e.Limit = number
			wantHappenOk(t, 1, e, within(number, 1, 20) || kind != 1 && kind != 9)
			e = openEvent(kind)
			e.At = number
			wantHappenOk(t, 1, e, number >= 0)
			wantHappenOk(t, 1, withCut(openEvent(kind), number), true)
			e = openEvent(kind)
			e.Whole, e.Left = number, []int{number, number}
			wantHappenOk(t, 1, e, true)
		}
		for _, count := range []int{0, 1, 29, 30, 31, 32, 256, 286, 1000} {
			wantHappenOk(t, 1, withCut(openEvent(kind), 0, make([]int, count)...), count <= 30)
			e := openEvent(kind)
			e.Left = slices.Repeat([]int{-1}, count)
			wantHappenOk(t, 1, e, count <= 30)
		}
	}
}

func TestEventsOfEachCommand(t *testing.T) {
	for kind := 1; kind <= 9; kind++ {
		for at, x := range append(rightCommands(), wrongCommands()...) {
			e := openEvent(kind)
			e.Command = x
			wantHappenOk(t, 2, e, kind != 5 || at < len(rightCommands()))
		}
	}
}

func TestEventsOfEachConf(t *testing.T) {
	for kind := 1; kind <= 9; kind++ {
		for nodes := 1; nodes <= 4; nodes++ {
			for _, conf := range rightConfs() {
				e := openEvent(kind)
				e.Conf = conf
				wantHappenOk(t, nodes, e, kind != 6 || conf[len(conf)-1] <= nodes)
			}
			for _, conf := range wrongConfs() {
				e := openEvent(kind)
				e.Conf = conf
				wantHappenOk(t, nodes, e, kind != 6)
			}
		}
	}
}

// toldWorld is another text for each other world.
func toldWorld(w impl.World) string {
	var out strings.Builder
	for at, s := range w.Servers {
		fmt.Fprintf(&out, "server %d: %s\n", at+1, toldServer(s))
	}
	fmt.Fprintf(&out, "up %v\nnet\n%swaits %v\n", w.Up, toldMessages(w.Net), w.Waits)
	for _, l := range w.Leaders {
		fmt.Fprintf(&out, "%d leads in %d: %s\n", l.Node, l.Term, toldNode(impl.Node{Log: l.Log}))
	}
	return out.String() + toldApplied(w.Applied) + toldReplies(w.Replies)
}

func toldApplied(list []impl.Applied) string {
	var out strings.Builder
	for _, a := range list {
		fmt.Fprintf(&out, "applied at %d in %d: %d %d %d %q\n", a.Node, a.Term, a.Index, a.Entry.Term, a.Entry.Kind, a.Entry.Data)
	}
	return out.String()
}

func toldReplies(list []impl.Reply) string {
	var out strings.Builder
	for _, r := range list {
		x := r.Command
		fmt.Fprintf(&out, "reply of %d at %d: %d, %d %d %d %q %q %d, %q\n", r.Call, r.When, r.Index, x.Op, x.Token, x.Seq, x.Key, x.Val, x.Ver, r.Text)
	}
	return out.String()
}

func sameWorld(a, b impl.World) bool { return toldWorld(a) == toldWorld(b) }

func isNoWorld(w impl.World) bool { return sameWorld(w, impl.World{}) }

func wantNoWorld(t *testing.T, nodes int, conf []int) {
	t.Helper()
	if w, ok := impl.WorldNew(nodes, conf); ok || !isNoWorld(w) {
		t.Errorf("WorldNew(%d, %.60v) is %v, %.300s", nodes, conf, ok, toldWorld(w))
	}
	for _, events := range [][]impl.Happen{nil, {evDown(1)}} {
		if w, codes, ok := impl.RunCluster(nodes, conf, events); ok || len(codes) > 0 || !isNoWorld(w) {
			t.Errorf("RunCluster(%d, %.60v) is %v, %v, %.300s", nodes, conf, ok, codes, toldWorld(w))
		}
	}
}

func TestWorldNew(t *testing.T) {
	for _, nodes := range slices.Concat(oddInts(), []int{6, 256, 257, 260}) {
		for _, conf := range rightConfs() {
			if !within(nodes, 1, 4) || conf[len(conf)-1] > nodes {
				wantNoWorld(t, nodes, conf)
				continue
			}
			w, ok := impl.WorldNew(nodes, conf)
			if !ok || !sameWorld(w, plainWorldOf(nodes, conf).World) {
				t.Errorf("WorldNew(%d, %v) is %v, %s", nodes, conf, ok, toldWorld(w))
			}
			if len(w.Up) != nodes || len(w.Servers) != nodes {
				t.Fatalf("WorldNew(%d, %v) has %d servers", nodes, conf, len(w.Servers))
			}
			for at, s := range w.Servers {
				n, _ := impl.NodeNew(at+1, conf)
				d, _ := impl.FormatDisk(conf)
				if !w.Up[at] || !impl.ServerOk(s) || !sameNode(s.Node, n) || !sameDisk(s.Disk, d) || s.Applied != 0 || !sameKeep(s.Keep, impl.KeepNew()) || s.Stage != "" {
					t.Errorf("the server %d of %d is %v, %s", at+1, nodes, w.Up[at], toldServer(s))
				}
			}
		}
		for _, conf := range wrongConfs() {
			wantNoWorld(t, nodes, conf)
		}
	}
}

// A plainWorld does what the chapter says word by word, one event behind the
// other.
type plainWorld struct {
	impl.World
	codes []int
}

func plainWorldOf(nodes int, conf []int) *plainWorld {
	p := &plainWorld{}
	for id := 1; id <= nodes; id++ {
		d, _ := impl.FormatDisk(conf)
		s, _, _ := impl.Boot(id, d, 20)
		p.Up = append(p.Up, true)
		p.Servers = append(p.Servers, s)
	}
	return p
}

func (p *plainWorld) do(e impl.Happen) int {
	code := p.number(e)
	p.codes = append(p.codes, code)
	return code
}

func (p *plainWorld) number(e impl.Happen) int {
	if within(e.Kind, 2, 4) {
		return p.message(e)
	}
	isUp := p.Up[e.Node-1]
	switch {
	case e.Kind == 9 && isUp, e.Kind != 9 && !isUp:
		return 1
	case e.Kind == 8:
		p.down(e.Node)
		return 0
	case e.Kind == 9:
		s, _, code := impl.Boot(e.Node, p.Servers[e.Node-1].Disk, e.Limit)
		if code != 0 {
			return 2
		}
		p.Servers[e.Node-1], p.Up[e.Node-1] = s, true
		return 0
	}
	in := map[int]impl.Input{1: ticks(e.Limit), 5: proposes(3, plainCommandText(e.Command)), 6: proposes(2, bytesOf(e.Conf)), 7: snaps()}
	return p.input(e.Node, e, in[e.Kind])
}

func (p *plainWorld) message(e impl.Happen) int {
	count := len(p.Net)
	if count == 0 {
		return 1
	}
	m, rest := p.Net[e.At%count], []impl.Message{}
	if e.Kind == 4 {
		p.Net = append(p.Net, m)
		return 0
	}
	for at, other := range p.Net {
		if at != e.At%count {
			rest = append(rest, other)
		}
	}
	p.Net = rest
	switch {
	case e.Kind == 3:
		return 0
	case !p.Up[m.To-1]:
		return 1
	}
	return p.input(m.To, e, hears(m))
}

func (p *plainWorld) down(node int) {
	p.Up[node-1] = false
	p.keepWaits(func(w impl.Wait) bool { return w.Node != node })
}

func (p *plainWorld) keepWaits(stays func(w impl.Wait) bool) {
	list := []impl.Wait{}
	for _, w := range p.Waits {
		if stays(w) {
			list = append(list, w)
		}
	}
	p.Waits = list
}

func (p *plainWorld) input(node int, e impl.Happen, in impl.Input) int {
	s := p.Servers[node-1]
	got, ok := serveOf(s, in)
	if !ok {
		return 2
	}
	if e.Cut {
		whole := e.Whole
		if whole < 0 {
			whole = 0
		}
		if whole > len(got.acts) {
			whole = len(got.acts)
		}
		cut, _ := impl.CutActs(s.Disk, got.acts, whole, e.Left)
		s.Disk = cut
		p.Servers[node-1] = s
		p.down(node)
		return 3
	}
	n := got.server.Node
	for _, d := range got.done {
		p.Applied = append(p.Applied, impl.Applied{Node: node, Term: n.Term, Index: d.Index, Entry: d.Entry})
	}
	p.Servers[node-1] = got.server
	for _, m := range got.told {
		if m.To <= len(p.Up) {
			p.Net = append(p.Net, m)
		}
	}
	if led := s.Node.Role == 2 && s.Node.Term == n.Term; n.Role == 2 && !led {
		p.Leaders = append(p.Leaders, impl.Leader{Node: node, Term: n.Term, Log: n.Log})
	}
	place := len(p.codes)
	if e.Kind == 5 {
		p.Waits = append(p.Waits, impl.Wait{Node: node, Index: got.index, Term: n.Term, Call: place})
	}
	for _, d := range got.done {
		p.reply(node, place, d)
	}
	return 0
}

func (p *plainWorld) reply(node, place int, d impl.Done) {
	for _, w := range p.Waits {
		if w.Node == node && w.Index == d.Index && w.Term == d.Entry.Term {
			x, _ := plainReadCommand(d.Entry.Data)
			p.Replies = append(p.Replies, impl.Reply{Call: w.Call, When: place, Index: d.Index, Command: x, Text: d.Reply})
		}
	}
	p.keepWaits(func(w impl.Wait) bool { return w.Node != node || w.Index != d.Index })
}

// A play is a life that is told event by event, beside its plain world.
type play struct {
	t      *testing.T
	nodes  int
	conf   []int
	events []impl.Happen
	*plainWorld
}

func playOf(t *testing.T, nodes int, conf ...int) *play {
	t.Helper()
	return &play{t: t, nodes: nodes, conf: conf, plainWorld: plainWorldOf(nodes, conf)}
}

func (p *play) happens(e impl.Happen) int {
	p.t.Helper()
	if !plainHappenOk(p.nodes, e) {
		p.t.Fatalf("%v is drawn", e)
	}
	p.events = append(p.events, e)
	return p.do(e)
}

// wants has events happen, which have this number.
func (p *play) wants(code int, events ...impl.Happen) {
	p.t.Helper()
	for _, e := range events {
		if got := p.happens(e); got != code {
			p.t.Errorf("%v behind %v is %d; want %d", e, p.events[:len(p.events)-1], got, code)
		}
	}
}

// placeOf is where the first message of this Kind to this node is.
func (p *play) placeOf(kind, to int) int {
	p.t.Helper()
	at := slices.IndexFunc(p.Net, func(m impl.Message) bool { return m.Kind == kind && m.To == to })
	if at < 0 {
		p.t.Fatalf("no message %d to %d is on its way: %s", kind, to, toldMessages(p.Net))
	}
	return at
}

// hands delivers the first message of this Kind to this node.
func (p *play) hands(kind, to int) {
	p.t.Helper()
	p.wants(0, evDeliver(p.placeOf(kind, to)))
}

func (p *play) losesAll() {
	p.t.Helper()
	for len(p.Net) > 0 {
		p.wants(0, evDrop(0))
	}
}

// stands has a node stand when it comes up again.
func (p *play) stands(node int) {
	p.t.Helper()
	p.wants(0, evDown(node), evUp(node, 1), evTick(node, 20))
}

// handsLast delivers the last message of this Kind to each of these nodes.
func (p *play) handsLast(kind int, nodes ...int) {
	p.t.Helper()
	for _, to := range nodes {
		at := len(p.Net) - 1
		for at >= 0 && (p.Net[at].Kind != kind || p.Net[at].To != to) {
			at--
		}
		if at < 0 {
			p.t.Fatalf("no message %d to %d is on its way: %s", kind, to, toldMessages(p.Net))
		}
		p.wants(0, evDeliver(at))
	}
}

// leads has a node lead by the vote of another one.
func (p *play) leads(node, other int) {
	p.t.Helper()
	p.stands(node)
	p.handsLast(impl.AskVote, other)
	p.handsLast(impl.TellVote, node)
	if p.Servers[node-1].Node.Role != impl.RoleLead {
		p.t.Fatalf("%d does not lead: %s", node, toldWorld(p.World))
	}
}

// check holds what is answered against the plain world and the promise.
func (p *play) check() impl.World {
	p.t.Helper()
	w, codes, ok := impl.RunCluster(p.nodes, p.conf, p.events)
	if !ok || !slices.Equal(codes, p.codes) || !sameWorld(w, p.World) {
		p.t.Errorf("RunCluster(%d, %v, %v) is %v\n%v\n%s\nwant\n%v\n%s", p.nodes, p.conf, p.events, ok, codes, toldWorld(w), p.codes, toldWorld(p.World))
	}
	p.wantPromise(w)
	return w
}

// wantPromise: no Term has two leaders, no Index two entries; servers that are
// up are right, and the others come up.
func (p *play) wantPromise(w impl.World) {
	p.t.Helper()
	leaders, entries := map[int]int{}, map[int]impl.Entry{}
	for _, l := range w.Leaders {
		if other, there := leaders[l.Term]; there && other != l.Node {
			p.t.Errorf("behind %v %d and %d lead in the Term %d", p.events, other, l.Node, l.Term)
		}
		leaders[l.Term] = l.Node
	}
	for _, a := range w.Applied {
		if other, there := entries[a.Index]; there && other != a.Entry {
			p.t.Errorf("behind %v at %d are %v and %v", p.events, a.Index, other, a.Entry)
		}
		entries[a.Index] = a.Entry
	}
	for at, s := range w.Servers {
		if w.Up[at] && !impl.ServerOk(s) {
			p.t.Errorf("behind %v not right: %s", p.events, toldServer(s))
		}
		up, _, code := impl.Boot(at+1, s.Disk, 5)
		if code != 0 || !impl.ServerOk(up) {
			p.t.Errorf("behind %v does not come up: %d, %s", p.events, code, toldServer(s))
		}
	}
}

func reply(call, when, index int, x impl.Command, text string) impl.Reply {
	return impl.Reply{Call: call, When: when, Index: index, Command: x, Text: text}
}

func wait(node, index, term, call int) impl.Wait {
	return impl.Wait{Node: node, Index: index, Term: term, Call: call}
}

func (p *play) wantReplies(want ...impl.Reply) {
	p.t.Helper()
	if w := p.check(); !slices.Equal(w.Replies, want) {
		p.t.Errorf("the replies are\n%swant\n%s", toldReplies(w.Replies), toldReplies(want))
	}
}

func (p *play) wantWaits(want ...impl.Wait) {
	p.t.Helper()
	if w := p.check(); !slices.Equal(w.Waits, want) {
		p.t.Errorf("the waits are %v; want %v", w.Waits, want)
	}
}

func (p *play) wantUp(want ...bool) {
	p.t.Helper()
	if w := p.check(); !slices.Equal(w.Up, want) {
		p.t.Errorf("up are %v; want %v", w.Up, want)
	}
}

func (p *play) wantNet(want ...impl.Message) {
	p.t.Helper()
	if w := p.check(); toldMessages(w.Net) != toldMessages(want) {
		p.t.Errorf("on their way are\n%swant\n%s", toldMessages(w.Net), toldMessages(want))
	}
}

func (p *play) wantLeaders(want ...impl.Leader) {
	p.t.Helper()
	w := p.check()
	if len(w.Leaders) != len(want) {
		p.t.Errorf("%d lead: %v; want %v", len(w.Leaders), w.Leaders, want)
		return
	}
	for at, l := range w.Leaders {
		if l.Node != want[at].Node || l.Term != want[at].Term || !sameLog(l.Log, want[at].Log) {
			p.t.Errorf("%v leads; want %v", l, want[at])
		}
	}
}

func applied(node, term, index int, e impl.Entry) impl.Applied {
	return impl.Applied{Node: node, Term: term, Index: index, Entry: e}
}

func (p *play) wantApplied(want ...impl.Applied) {
	p.t.Helper()
	if w := p.check(); !slices.Equal(w.Applied, want) {
		p.t.Errorf("applied are\n%swant\n%s", toldApplied(w.Applied), toldApplied(want))
	}
}

func commandOf(term int, x impl.Command) impl.Entry { return command(term, plainCommandText(x)) }

func TestALifeWithoutEvents(t *testing.T) {
	for nodes := 1; nodes <= 4; nodes++ {
		for _, events := range [][]impl.Happen{nil, {}} {
			w, codes, ok := impl.RunCluster(nodes, []int{1}, events)
			if !ok || len(codes) != 0 || !sameWorld(w, plainWorldOf(nodes, []int{1}).World) {
				t.Errorf("RunCluster(%d) is %v, %v, %s", nodes, ok, codes, toldWorld(w))
			}
		}
	}
}

func wantNoCluster(t *testing.T, nodes int, events []impl.Happen) {
	t.Helper()
	if w, codes, ok := impl.RunCluster(nodes, []int{1}, events); ok || len(codes) > 0 || !isNoWorld(w) {
		t.Errorf("RunCluster(%d) of %d events is %v, %v, %.300s", nodes, len(events), ok, codes, toldWorld(w))
	}
}

func TestAsManyEventsAsMayBe(t *testing.T) {
	for _, e := range eachEvent() {
		for _, count := range []int{59, 60} {
			p := playOf(t, 2, 1)
			for range count {
				p.happens(e)
			}
			p.check()
		}
		for _, count := range []int{61, 62, 120, 256, 316, 5000} {
			wantNoCluster(t, 2, slices.Repeat([]impl.Happen{e}, count))
		}
	}
}

// Nothing happens where one event is wrong.
func TestWrongEvents(t *testing.T) {
	wrong := []impl.Happen{{}, openEvent(0), openEvent(10), openEvent(-1), evTick(0, 5), evTick(3, 5), evTick(1, 0), evTick(1, 21), evUp(1, 0), evUp(1, 21), evDeliver(-1), evDrop(-1), evCopy(math.MinInt), evCall(1, impl.Command{}), evCall(3, askOpen()), evConf(1), evConf(1, 1, 2, 3), evConf(1, 2, 1), evConf(1, 3), evSnap(0), evSnap(3), evDown(-1), evDown(3), evUp(3, 5), withCut(evSnap(1), 0, make([]int, 31)...)}
	for _, e := range wrong {
		wantHappenOk(t, 2, e, false)
		for at := range 4 {
			wantNoCluster(t, 2, slices.Insert([]impl.Happen{evTick(1, 5), evDown(2), evUp(2, 3)}, at, e))
		}
		wantNoCluster(t, 2, append(slices.Repeat([]impl.Happen{evTick(1, 5)}, 59), e))
	}
}

func TestALifeOfOneNode(t *testing.T) {
	p := playOf(t, 1, 1)
	put, get := askPut(2, 1, "a", "x"), askGet(2, 2, "a")
	p.wants(0, evDown(1), evUp(1, 1), evTick(1, 2), evCall(1, askOpen()), evCall(1, put), evTick(1, 3), evSnap(1), evCall(1, get), evCall(1, put))
	p.wantReplies(reply(3, 3, 2, askOpen(), "open 2"), reply(4, 4, 3, put, "put 3"), reply(7, 7, 4, get, "is 3 x"), reply(8, 8, 5, put, "old"))
	p.wantWaits()
	p.wantNet()
	p.wantUp(true)
	p.wantLeaders(impl.Leader{Node: 1, Term: 1, Log: logOf(0, 0, none(1))})
	p.wantApplied(applied(1, 1, 1, none(1)), applied(1, 1, 2, commandOf(1, askOpen())), applied(1, 1, 3, commandOf(1, put)), applied(1, 1, 4, commandOf(1, get)), applied(1, 1, 5, commandOf(1, put)))
	if w := p.check(); w.Servers[0].Node.Log.Start != 3 || w.Servers[0].Node.Limit != 2 || w.Servers[0].Applied != 5 {
		t.Errorf("the server is %s", toldServer(w.Servers[0]))
	}
}

// A tick has its own Limit; a node comes up with that of its event.
func TestLimitsOfEvents(t *testing.T) {
	for _, limit := range []int{1, 2, 19, 20} {
		p := playOf(t, 2, 1, 2)
		p.wants(0, evDown(1), evUp(1, limit))
		if n := p.check().Servers[0].Node; n.Limit != limit || n.Clock != 0 {
			t.Errorf("with %d it comes up as %s", limit, toldNode(n))
		}
		for range limit - 1 {
			p.wants(0, evTick(1, 7))
		}
		if n := p.check().Servers[0].Node; n.Role != impl.RoleFollow || n.Clock != limit-1 || n.Limit != limit {
			t.Errorf("ahead of %d it is %s", limit, toldNode(n))
		}
		p.wants(0, evTick(1, 7))
		if n := p.check().Servers[0].Node; n.Role != impl.RoleStand || n.Limit != 7 {
			t.Errorf("at %d it is %s", limit, toldNode(n))
		}
	}
}

// Of one that is down nothing happens but that it comes up, of one that is up
// all but that.
func TestEventsOfOneThatIsDownOrUp(t *testing.T) {
	for _, e := range []impl.Happen{evTick(2, 1), evCall(2, askOpen()), evConf(2, 1, 2), evSnap(2), evDown(2), withCut(evTick(2, 1), 0), withCut(evSnap(2), 1), withCut(evDown(2), 0)} {
		p := playOf(t, 3, 1, 2, 3)
		p.leads(2, 1)
		p.wants(0, evDown(2))
		was := toldWorld(p.World)
		p.wants(1, e, e)
		if got := toldWorld(p.check()); got != was {
			t.Errorf("%v at one that is down makes\n%s\nof\n%s", e, got, was)
		}
	}
	for _, e := range []impl.Happen{evUp(2, 1), evUp(2, 20), withCut(evUp(2, 5), 0)} {
		p := playOf(t, 3, 1, 2, 3)
		p.leads(2, 1)
		was := toldWorld(p.World)
		p.wants(1, e, e)
		if got := toldWorld(p.check()); got != was {
			t.Errorf("%v at one that is up makes\n%s\nof\n%s", e, got, was)
		}
	}
}

// One that goes down has its server as it was; one that comes up, what its disk
// tells.
func TestDownAndUp(t *testing.T) {
	p := playOf(t, 1, 1)
	p.wants(0, evDown(1), evUp(1, 1), evTick(1, 2), evCall(1, askOpen()), evSnap(1), evCall(1, askPut(2, 1, "a", "x")))
	ahead := p.check().Servers[0]
	p.wants(0, withCut(evDown(1), 0, 0))
	p.wantUp(false)
	if s := p.check().Servers[0]; !sameServer(s, ahead) || s.Applied != 3 {
		t.Errorf("down is %s\nof\n%s", toldServer(s), toldServer(ahead))
	}
	p.wants(0, withCut(evUp(1, 9), 0, 0))
	p.wantUp(true)
	up, _, _ := impl.Boot(1, ahead.Disk, 9)
	if s := p.check().Servers[0]; !sameServer(s, up) || s.Applied != 2 || s.Node.Limit != 9 || s.Node.Term != 1 {
		t.Errorf("up is %s", toldServer(s))
	}
}

// A node comes up on whatever the power left, and does on its disk what is to be
// done: a file that was begun goes.
func TestUpBehindACut(t *testing.T) {
	p := playOf(t, 1, 1)
	p.wants(0, evDown(1), evUp(1, 1), evTick(1, 2))
	p.wants(3, withCut(evSnap(1), 1, 20000, 20000, 20000))
	left := p.check().Servers[0].Disk
	if _, begun := impl.FileAt(left, "s+"); !begun {
		t.Errorf("the power left\n%s", toldDisk(left))
	}
	p.wants(0, evUp(1, 3))
	up, acts, _ := impl.Boot(1, left, 3)
	if s := p.check().Servers[0]; !sameServer(s, up) || len(acts) != 1 || len(s.Disk.Files) != 2 {
		t.Errorf("up is %s", toldServer(s))
	}
}

func TestMessagesAtEachPlace(t *testing.T) {
	for _, at := range []int{0, 1, 2, 3, 4, 5, 6, 7, 100, 256, 1 << 32, math.MaxInt - 1, math.MaxInt} {
		ahead := playOf(t, 4, 1, 2, 3, 4)
		ahead.stands(2)
		asks := ahead.check().Net
		toldBy := [3]int{1, 3, 4}
		if len(asks) != 3 || asks[0].To != 1 || asks[1].To != 3 || asks[2].To != 4 {
			t.Fatalf("on their way are %s", toldMessages(asks))
		}
		rest := slices.Delete(slices.Clone(asks), at%3, at%3+1)
		p := playOf(t, 4, 1, 2, 3, 4)
		p.stands(2)
		p.wants(0, evDrop(at))
		p.wantNet(rest...)
		p = playOf(t, 4, 1, 2, 3, 4)
		p.stands(2)
		p.wants(0, evCopy(at))
		p.wantNet(append(slices.Clone(asks), asks[at%3])...)
		p = playOf(t, 4, 1, 2, 3, 4)
		p.stands(2)
		p.wants(0, evDeliver(at))
		p.wantNet(append(rest, tellsVote(toldBy[at%3], 2, 1, true))...)
		p = playOf(t, 4, 1, 2, 3, 4)
		p.stands(2)
		p.wants(0, evDown(toldBy[at%3]))
		p.wants(1, evDeliver(at))
		p.wantNet(slices.Delete(slices.Clone(asks), at%3, at%3+1)...)
		p.wants(0, evCopy(1), evDrop(at))
		p.check()
	}
}

// An event of a message is not of its Node: that may be down, or any other.
func TestMessagesOfEachNode(t *testing.T) {
	for kind := 2; kind <= 4; kind++ {
		for node := 1; node <= 3; node++ {
			p := playOf(t, 3, 1, 2, 3)
			p.stands(1)
			p.wants(0, evDown(1), evCopy(1), impl.Happen{Kind: kind, Node: node})
			one := p.check()
			q := playOf(t, 3, 1, 2, 3)
			q.stands(1)
			q.wants(0, evDown(1), evCopy(1), withCutOnly(impl.Happen{Kind: kind, Node: 1}, kind != 2))
			if other := q.check(); !sameWorld(one, other) {
				t.Errorf("%d of the node %d makes\n%s\nwant\n%s", kind, node, toldWorld(one), toldWorld(other))
			}
		}
	}
}

// withCutOnly has a cut where that changes nothing.
func withCutOnly(e impl.Happen, isFree bool) impl.Happen {
	if isFree {
		return withCut(e, 0, 0)
	}
	return e
}

func TestNoMessages(t *testing.T) {
	for nodes := 1; nodes <= 4; nodes++ {
		for _, at := range []int{0, 1, 7, math.MaxInt} {
			p := playOf(t, nodes, 1)
			p.wants(1, evDeliver(at), evDrop(at), evCopy(at), withCut(evDeliver(at), 0), withCut(evDrop(at), 0), withCut(evCopy(at), 0))
			if w := p.check(); !sameWorld(w, plainWorldOf(nodes, []int{1}).World) {
				t.Errorf("what comes of no message is %s", toldWorld(w))
			}
		}
	}
	p := playOf(t, 2, 1, 2)
	p.stands(1)
	p.wants(0, evDrop(5))
	p.wants(1, evDrop(5), evCopy(0), evDeliver(1))
	p.wantNet()
}

// A message that is doubled comes twice, and changes nothing the second time.
func TestAMessageThatComesTwice(t *testing.T) {
	p := playOf(t, 2, 1, 2)
	p.stands(1)
	p.wants(0, evCopy(0), evCopy(1), evDeliver(0))
	once := p.check().Servers[1]
	p.wants(0, evDeliver(0), evDeliver(0))
	if w := p.check(); !sameServer(w.Servers[1], once) || len(w.Net) != 3 {
		t.Errorf("heard thrice it is %s", toldWorld(w))
	}
	p.wantNet(tellsVote(2, 1, 1, true), tellsVote(2, 1, 1, true), tellsVote(2, 1, 1, true))
}

// What the server refuses changes nothing: one that does not lead takes no call
// and no conf, and one that leads no conf that is not one apart.
func TestWhatIsRefused(t *testing.T) {
	for _, e := range []impl.Happen{evCall(1, askOpen()), evConf(1, 1, 2), evCall(3, askOpen()), evConf(3, 1, 2), evCall(4, askPut(1, 1, "a", "x")), evConf(2, 1), evConf(2, 1, 2, 3, 4), evConf(2, 1, 2, 3), evConf(2, 4), evConf(2, 1, 2)} {
		for _, x := range []impl.Happen{e, withCut(e, 0), withCut(e, 9, 3, 4)} {
			p := playOf(t, 4, 1, 2, 3)
			p.leads(2, 1)
			was := toldWorld(p.World)
			p.wants(2, x, x)
			if got := toldWorld(p.check()); got != was {
				t.Errorf("%v makes\n%s\nof\n%s", x, got, was)
			}
		}
	}
}

// What is told goes behind what was told ahead, in order.
func TestTheOrderOfWhatIsTold(t *testing.T) {
	p := playOf(t, 4, 1, 2, 3)
	p.stands(3)
	p.wantNet(asksVote(3, 1, 1, 0, 0), asksVote(3, 2, 1, 0, 0))
	p.wants(0, evDeliver(1))
	p.wantNet(asksVote(3, 1, 1, 0, 0), tellsVote(2, 3, 1, true))
	p.wants(0, evDeliver(1))
	heads := []impl.Message{asksVote(3, 1, 1, 0, 0), asksAppend(3, 1, 1, 0, 0, 0, none(1)), asksAppend(3, 2, 1, 0, 0, 0, none(1))}
	p.wantNet(heads...)
	p.wants(0, evCall(3, askOpen()))
	p.wantNet(append(heads, asksAppend(3, 1, 1, 0, 0, 0, none(1), commandOf(1, askOpen())), asksAppend(3, 2, 1, 0, 0, 0, none(1), commandOf(1, askOpen())))...)
	p.wants(0, evDeliver(4))
	p.wantNet(append(heads, asksAppend(3, 1, 1, 0, 0, 0, none(1), commandOf(1, askOpen())), tellsAppend(2, 3, 1, true, 2))...)
	p.wants(0, evDeliver(4), evConf(3, 1, 2, 3, 4))
	e := conf(1, "\x01\x02\x03\x04")
	p.wantNet(append(heads, asksAppend(3, 1, 1, 0, 0, 0, none(1), commandOf(1, askOpen())), asksAppend(3, 1, 1, 0, 0, 2, none(1), commandOf(1, askOpen()), e), asksAppend(3, 2, 1, 2, 1, 2, e), asksAppend(3, 4, 1, 2, 1, 2, e))...)
	p.wantWaits()
	p.wantReplies(reply(5, 7, 2, askOpen(), "open 2"))
}

// A snapshot is sent where a node lacks what was cut off.
func TestASnapshotThatIsSent(t *testing.T) {
	p := playOf(t, 2, 1)
	p.stands(1)
	p.wants(0, evCall(1, askOpen()), evCall(1, askPut(2, 1, "a", "x")), evSnap(1), evConf(1, 1, 2))
	p.wants(0, evDeliver(0), evTick(1, 5))
	for range 20 {
		if len(p.Net) > 0 {
			p.wants(0, evDeliver(0))
		}
	}
	p.wants(0, evTick(1, 5))
	for range 4 {
		if len(p.Net) > 0 {
			p.wants(0, evDeliver(0))
		}
	}
	w := p.check()
	if s := w.Servers[1]; s.Node.Log.Start != 3 || s.Applied != 4 || !sameKeep(s.Keep, w.Servers[0].Keep) {
		t.Errorf("the other one is %s", toldServer(s))
	}
	p.wantApplied(applied(1, 1, 1, none(1)), applied(1, 1, 2, commandOf(1, askOpen())), applied(1, 1, 3, commandOf(1, askPut(2, 1, "a", "x"))), applied(1, 1, 4, conf(1, "\x01\x02")), applied(2, 1, 4, conf(1, "\x01\x02")))
	p.wantReplies(reply(3, 3, 2, askOpen(), "open 2"), reply(4, 4, 3, askPut(2, 1, "a", "x"), "put 3"))
}

// Who leads on in its Term is told once, who leads anew in another, again.
func TestLeaders(t *testing.T) {
	p := playOf(t, 3, 1, 2, 3)
	first := impl.Leader{Node: 1, Term: 1, Log: logOf(0, 0, none(1))}
	p.stands(1)
	p.wantLeaders()
	p.hands(impl.AskVote, 2)
	p.wantLeaders()
	p.hands(impl.TellVote, 1)
	p.wantLeaders(first)
	p.wants(0, evTick(1, 5), evCall(1, askOpen()), evSnap(1))
	p.hands(impl.AskVote, 3)
	p.hands(impl.TellVote, 1)
	p.wantLeaders(first)
	p.hands(impl.AskAppend, 2)
	p.hands(impl.TellAppend, 1)
	p.wantLeaders(first)
	p.losesAll()
	p.leads(1, 3)
	second := impl.Leader{Node: 1, Term: 2, Log: logOf(0, 0, none(1), commandOf(1, askOpen()), none(2))}
	p.wantLeaders(first, second)
	p.losesAll()
	p.stands(2)
	p.leads(2, 3)
	p.wants(0, evTick(2, 5))
	third := impl.Leader{Node: 2, Term: 3, Log: logOf(0, 0, none(1), none(3))}
	p.wantLeaders(first, second, third)
	// What the log of one that led becomes is not told.
	p.handsLast(impl.AskAppend, 1, 3)
	p.wantLeaders(first, second, third)
}

// One that leads and goes down leads no more, and what it told as it led stays.
func TestALeaderThatGoesDown(t *testing.T) {
	for _, isCut := range []bool{false, true} {
		p := playOf(t, 3, 1, 2, 3)
		p.leads(1, 2)
		if isCut {
			p.wants(3, withCut(evTick(1, 5), 0))
		} else {
			p.wants(0, evDown(1))
		}
		p.wantNet(asksVote(1, 3, 1, 0, 0), asksAppend(1, 2, 1, 0, 0, 0, none(1)), asksAppend(1, 3, 1, 0, 0, 0, none(1)))
		p.wants(0, evUp(1, 9))
		p.wants(2, evCall(1, askOpen()))
		if n := p.check().Servers[0].Node; n.Role != impl.RoleFollow || n.Term != 1 || n.Vote != 1 || !sameLog(n.Log, logOf(0, 0, none(1))) {
			t.Errorf("it comes up as %s", toldNode(n))
		}
		p.wantLeaders(impl.Leader{Node: 1, Term: 1, Log: logOf(0, 0, none(1))})
	}
}

// A cut as a node comes to lead tells of no leader.
func TestACutOfOneThatComesToLead(t *testing.T) {
	p := playOf(t, 1, 1)
	p.wants(0, evDown(1), evUp(1, 1))
	p.wants(3, withCut(evTick(1, 5), 2))
	p.wantLeaders()
	p.wantApplied()
	p.wants(0, evUp(1, 1), evTick(1, 5))
	p.wantLeaders(impl.Leader{Node: 1, Term: 2, Log: logOf(0, 0, none(1), none(2))})
}

func TestCallsThatAreDoneLater(t *testing.T) {
	p := playOf(t, 3, 1, 2, 3)
	p.leads(2, 1)
	p.losesAll()
	open, again := askOpen(), askPut(2, 1, "a", "x")
	first := len(p.events)
	p.wants(0, evCall(2, open), evCall(2, again))
	p.wantWaits(wait(2, 2, 1, first), wait(2, 3, 1, first+1))
	p.wantReplies()
	p.hands(impl.AskAppend, 1)
	p.wantWaits(wait(2, 2, 1, first), wait(2, 3, 1, first+1))
	p.hands(impl.TellAppend, 2)
	p.wantWaits(wait(2, 3, 1, first+1))
	p.wantReplies(reply(first, first+3, 2, open, "open 2"))
	p.wants(0, evDrop(p.placeOf(impl.AskAppend, 3)))
	p.hands(impl.AskAppend, 3)
	p.hands(impl.TellAppend, 2)
	p.wantWaits()
	p.wantReplies(reply(first, first+3, 2, open, "open 2"), reply(first+1, first+6, 3, again, "put 3"))
	// The others apply it, too, and reply nothing, as they do not wait.
	p.wants(0, evTick(2, 5), evTick(2, 5))
	for len(p.Net) > 0 {
		p.wants(0, evDeliver(0))
	}
	p.wantReplies(reply(first, first+3, 2, open, "open 2"), reply(first+1, first+6, 3, again, "put 3"))
	for at, s := range p.check().Servers {
		if s.Applied != 3 {
			t.Errorf("%d has applied %d", at+1, s.Applied)
		}
	}
}

// Much may be committed at once; it is applied, and replied, MaxApply entries at
// a time.
func TestCallsThatAreDoneTogether(t *testing.T) {
	p := playOf(t, 4, 1, 2, 3, 4)
	p.wants(0, evDown(1), evUp(1, 1), evTick(1, 1))
	p.handsLast(impl.AskVote, 2, 3)
	p.handsLast(impl.TellVote, 1, 1)
	first := len(p.events)
	for range 8 {
		p.wants(0, evCall(1, askOpen()))
	}
	for range 3 {
		p.handsLast(impl.AskAppend, 2)
		p.handsLast(impl.TellAppend, 1)
	}
	// Two of four have it all, and another Term comes.
	p.stands(4)
	p.stands(4)
	p.handsLast(impl.AskVote, 1)
	p.wants(0, evTick(1, 20))
	p.handsLast(impl.AskVote, 2, 3)
	p.handsLast(impl.TellVote, 1, 1)
	for _, node := range []int{2, 3, 3, 3} {
		p.handsLast(impl.AskAppend, node)
		p.handsLast(impl.TellAppend, 1)
	}
	p.wantReplies()
	waits, want := []impl.Wait{}, []impl.Reply{}
	for at := range 8 {
		waits = append(waits, wait(1, 2+at, 1, first+at))
		want = append(want, reply(first+at, len(p.events)+1, 2+at, askOpen(), fmt.Sprintf("open %d", 2+at)))
	}
	p.wantWaits(waits...)
	p.handsLast(impl.AskAppend, 3)
	p.handsLast(impl.TellAppend, 1)
	p.wantReplies(want[:5]...)
	p.wantWaits(waits[5:]...)
	p.wants(0, evTick(1, 9))
	for at := 5; at < 8; at++ {
		want[at].When++
	}
	p.wantReplies(want...)
	p.wantWaits()
	if w := p.check(); w.Servers[0].Applied != 10 || len(w.Applied) != 10 || w.Applied[0].Term != 3 || w.Applied[0].Entry.Term != 1 {
		t.Errorf("the world is %s", toldWorld(w))
	}
}

// An entry that took the place of the one that was called is replied to nobody,
// and none waits for its index any more.
func TestACallWhoseEntryIsTakenAway(t *testing.T) {
	p := playOf(t, 3, 1, 2, 3)
	p.leads(1, 2)
	lost, other, first := askPut(1, 1, "a", "lost"), askOpen(), len(p.events)
	p.wants(0, evCall(1, lost), evCall(1, lost))
	p.losesAll()
	p.wantWaits(wait(1, 2, 1, first), wait(1, 3, 1, first+1))
	p.leads(2, 3)
	p.wants(0, evCall(2, other))
	second := len(p.events) - 1
	p.handsLast(impl.AskAppend, 1)
	p.wantWaits(wait(1, 2, 1, first), wait(1, 3, 1, first+1), wait(2, 2, 2, second))
	p.handsLast(impl.TellAppend, 2)
	replied := reply(second, len(p.events)-1, 2, other, "open 2")
	p.wantReplies(replied)
	p.wantWaits(wait(1, 2, 1, first), wait(1, 3, 1, first+1))
	p.wants(0, evTick(2, 9))
	p.handsLast(impl.AskAppend, 1)
	// Nothing is at 3 any more, and nothing of it was done.
	p.wantReplies(replied)
	p.wantWaits(wait(1, 3, 1, first+1))
	p.wants(0, evCall(2, other))
	p.handsLast(impl.AskAppend, 3)
	p.handsLast(impl.TellAppend, 2)
	p.wants(0, evTick(2, 9))
	p.handsLast(impl.AskAppend, 1)
	p.wantReplies(replied, reply(len(p.events)-5, len(p.events)-3, 3, other, "open 3"))
	p.wantWaits()
}

// Of two that wait for one index just the one of its Term is replied; none waits
// any more.
func TestTwoCallsAtOneIndex(t *testing.T) {
	p := playOf(t, 3, 1, 2, 3)
	p.wants(0, evDown(1), evUp(1, 1), evTick(1, 1))
	p.handsLast(impl.AskVote, 2)
	p.handsLast(impl.TellVote, 1)
	lost, kept, first := askPut(1, 1, "a", "lost"), askOpen(), len(p.events)
	p.wants(0, evCall(1, lost), evCall(1, lost))
	// 2 has one entry of its own Term, which 1 takes in the place of all.
	p.leads(2, 3)
	p.handsLast(impl.AskAppend, 1)
	p.wantWaits(wait(1, 2, 1, first), wait(1, 3, 1, first+1))
	p.wants(0, evTick(1, 9))
	p.handsLast(impl.AskVote, 3)
	p.handsLast(impl.TellVote, 1)
	p.wants(0, evCall(1, kept))
	second := len(p.events) - 1
	p.wantWaits(wait(1, 2, 1, first), wait(1, 3, 1, first+1), wait(1, 3, 3, second))
	p.handsLast(impl.AskAppend, 2)
	p.handsLast(impl.TellAppend, 1)
	p.wantReplies(reply(second, len(p.events)-1, 3, kept, "open 3"))
	p.wantWaits()
	p.wantApplied(applied(1, 3, 1, none(2)), applied(1, 3, 2, none(3)), applied(1, 3, 3, commandOf(3, kept)))
}

// Who goes down waits no more, though what was called is done; others wait on.
func TestACallWhoseNodeWentDown(t *testing.T) {
	for _, isCut := range []bool{false, true} {
		p := playOf(t, 3, 1, 2, 3)
		p.leads(1, 2)
		first := len(p.events)
		p.wants(0, evCall(1, askOpen()))
		p.handsLast(impl.AskAppend, 2)
		p.wantWaits(wait(1, 2, 1, first))
		p.leads(2, 3)
		p.wants(0, evCall(2, askPut(2, 1, "a", "x")))
		second := len(p.events) - 1
		p.wantWaits(wait(1, 2, 1, first), wait(2, 4, 2, second))
		if isCut {
			p.wants(3, withCut(evTick(1, 9), 1))
		} else {
			p.wants(0, evDown(1))
		}
		p.wantWaits(wait(2, 4, 2, second))
		p.wants(0, evUp(1, 9))
		p.wantWaits(wait(2, 4, 2, second))
		p.handsLast(impl.AskAppend, 3)
		p.handsLast(impl.TellAppend, 2)
		p.handsLast(impl.AskAppend, 3)
		p.handsLast(impl.TellAppend, 2)
		replied := reply(second, len(p.events)-1, 4, askPut(2, 1, "a", "x"), "put 4")
		p.wantReplies(replied)
		p.wants(0, evTick(2, 9))
		p.handsLast(impl.AskAppend, 1)
		p.wantReplies(replied)
		p.wantWaits()
		if s := p.check().Servers[0]; s.Applied != 4 {
			t.Errorf("1 has applied %d", s.Applied)
		}
	}
}

// A call is replied where it was called, though it is done elsewhere first.
func TestACallThatIsDoneElsewhereFirst(t *testing.T) {
	p := playOf(t, 3, 1, 2, 3)
	p.leads(1, 2)
	first := len(p.events)
	p.wants(0, evCall(1, askOpen()))
	p.handsLast(impl.AskAppend, 2)
	p.leads(2, 3)
	for range 2 {
		p.handsLast(impl.AskAppend, 3)
		p.handsLast(impl.TellAppend, 2)
	}
	if w := p.check(); w.Servers[1].Applied != 3 || w.Servers[0].Applied != 0 {
		t.Errorf("the world is %s", toldWorld(w))
	}
	p.wantReplies()
	p.wantWaits(wait(1, 2, 1, first))
	p.wants(0, evTick(2, 9))
	p.handsLast(impl.AskAppend, 1)
	p.wantReplies(reply(first, len(p.events)-1, 2, askOpen(), "open 2"))
	p.wantWaits()
}

// snapPlay has a node that leads send its snapshot to another one, which waits
// for two of the indexes in it.
func snapPlay(t *testing.T) *play {
	t.Helper()
	p := playOf(t, 3, 1, 2, 3)
	p.leads(1, 2)
	p.wants(0, evCall(1, askOpen()), evCall(1, askOpen()))
	p.leads(2, 3)
	p.wants(0, evCall(2, askPut(2, 1, "a", "x")), evCall(2, askOpen()), evCall(2, askPut(3, 1, "b", "y")))
	p.handsLast(impl.AskAppend, 3)
	p.handsLast(impl.TellAppend, 2)
	p.wants(0, evSnap(2), evTick(2, 9))
	return p
}

// Of what comes by a snapshot nothing is done: who called it waits on.
func TestACallWhoseIndexComesByASnapshot(t *testing.T) {
	p := snapPlay(t)
	for p.Servers[0].Node.Log.Start == 0 {
		p.handsLast(impl.AskInstall, 1)
		p.handsLast(impl.TellInstall, 2)
	}
	p.wantWaits(wait(1, 2, 1, 5), wait(1, 3, 1, 6))
	p.wants(0, evCall(2, askOpen()))
	p.handsLast(impl.AskAppend, 3)
	p.handsLast(impl.TellAppend, 2)
	p.wants(0, evTick(2, 9))
	p.handsLast(impl.AskAppend, 1)
	p.wantWaits(wait(1, 2, 1, 5), wait(1, 3, 1, 6))
	w := p.check()
	if s := w.Servers[0]; s.Applied != 5 || s.Node.Log.Start != 4 || len(w.Replies) != 4 {
		t.Errorf("the world is %s", toldWorld(w))
	}
}

// A conf is proposed as a call is, but none waits for it.
func TestConfsOfACluster(t *testing.T) {
	p := playOf(t, 3, 1)
	p.stands(1)
	p.wants(0, evConf(1, 1, 3))
	p.wants(2, evConf(1, 1, 2, 3), evConf(1, 1))
	p.wantWaits()
	p.wantNet(asksAppend(1, 3, 1, 1, 1, 1, conf(1, "\x01\x03")))
	p.hands(impl.AskAppend, 3)
	p.hands(impl.TellAppend, 1)
	p.wants(2, evConf(1, 1, 3))
	p.check()
	for len(p.Net) > 0 {
		p.wants(0, evDeliver(0))
	}
	p.wants(0, evConf(1, 1, 2, 3))
	for len(p.Net) > 0 {
		p.wants(0, evDeliver(0))
	}
	p.wantReplies()
	if w := p.check(); !slices.Equal(impl.ConfOf(w.Servers[1].Node), []int{1, 2, 3}) || w.Servers[0].Applied != 3 {
		t.Errorf("the world is %s", toldWorld(w))
	}
	two, three := conf(1, "\x01\x03"), conf(1, "\x01\x02\x03")
	p.wantApplied(applied(1, 1, 1, none(1)), applied(3, 1, 1, none(1)), applied(1, 1, 2, two), applied(3, 1, 2, two), applied(1, 1, 3, three), applied(2, 1, 1, none(1)), applied(2, 1, 2, two))
}

// cutEvents are events behind which a server writes, and what it hears by each.
func cutEvents(t *testing.T) map[string]func() (*play, int, impl.Happen, impl.Input) {
	t.Helper()
	alone := func() *play {
		p := playOf(t, 2, 1)
		p.stands(1)
		p.wants(0, evCall(1, askOpen()))
		return p
	}
	return map[string]func() (*play, int, impl.Happen, impl.Input){
		"stands": func() (*play, int, impl.Happen, impl.Input) {
			p := playOf(t, 2, 1, 2)
			p.wants(0, evDown(2), evUp(2, 1))
			return p, 2, evTick(2, 7), ticks(7)
		},
		"ticks": func() (*play, int, impl.Happen, impl.Input) {
			return playOf(t, 2, 1, 2), 2, evTick(2, 7), ticks(7)
		},
		"hears": func() (*play, int, impl.Happen, impl.Input) {
			p := playOf(t, 2, 1, 2)
			p.leads(1, 2)
			at := p.placeOf(impl.AskAppend, 2)
			return p, 2, evDeliver(at), hears(p.Net[at])
		},
		"calls": func() (*play, int, impl.Happen, impl.Input) {
			x := askPut(2, 1, "a", "x")
			return alone(), 1, evCall(1, x), proposes(impl.EntryCommand, plainCommandText(x))
		},
		"changes": func() (*play, int, impl.Happen, impl.Input) {
			return alone(), 1, evConf(1, 1, 2), proposes(impl.EntryConf, "\x01\x02")
		},
		"shortens": func() (*play, int, impl.Happen, impl.Input) {
			return alone(), 1, evSnap(1), snaps()
		},
		"waits": func() (*play, int, impl.Happen, impl.Input) {
			p := playOf(t, 2, 1, 2)
			p.leads(1, 2)
			p.wants(0, evCall(1, askOpen()))
			return p, 1, evCall(1, askOpen()), proposes(impl.EntryCommand, plainCommandText(askOpen()))
		},
	}
}

// The power goes behind each act: just the Disk is another one, and what waited
// is gone.
func TestCutsBehindEachAct(t *testing.T) {
	lefts := [][]int{nil, {}, {0}, {-1, math.MinInt}, {45, 45}, {0, 0, 20}, {20000, 20000, 20000, 20000}, {math.MaxInt, math.MaxInt, math.MaxInt}, slices.Repeat([]int{47}, 30)}
	for name, make := range cutEvents(t) {
		p, node, _, in := make()
		got, _ := serveOf(p.Servers[node-1], in)
		count := len(got.acts)
		if count == 0 != (name == "ticks") {
			t.Fatalf("who %s does %v", name, got.acts)
		}
		for _, left := range lefts {
			for _, whole := range []int{math.MinInt, -2, -1, 0, 1, 2, 3, 4, 5, 6, 7, 8, 9, 10, 60, 256, math.MaxInt} {
				p, node, e, in := make()
				was, ahead := p.check(), p.Servers[node-1]
				p.wants(3, withCut(e, whole, left...))
				w := p.check()
				disk, _ := impl.CutActs(ahead.Disk, got.acts, min(max(whole, 0), count), left)
				want := changedServer(ahead, func(s *impl.Server) { s.Disk = disk })
				if !sameServer(w.Servers[node-1], want) || w.Up[node-1] || !w.Up[2-node] || len(w.Waits) > 0 {
					t.Errorf("who %s is behind %d acts with %v\n%s\nwant\n%s", name, whole, left, toldServer(w.Servers[node-1]), toldServer(want))
				}
				if toldApplied(w.Applied) != toldApplied(was.Applied) || toldReplies(w.Replies) != toldReplies(was.Replies) || len(w.Leaders) != len(was.Leaders) {
					t.Errorf("who %s is cut behind %d acts, and tells %s", name, whole, toldWorld(w))
				}
				net := was.Net
				if in.Kind == impl.InMessage {
					net = slices.Delete(slices.Clone(net), e.At, e.At+1)
				}
				p.wantNet(net...)
				p.wants(1, e)
				p.wants(0, evUp(node, 3))
				p.check()
			}
		}
	}
}

// What was kept ahead of the cut is there again, what was not is not.
func TestWhatACutLeaves(t *testing.T) {
	for _, left := range [][]int{nil, {20000, 20000}} {
		for whole := range 3 {
			p := playOf(t, 1, 1)
			p.stands(1)
			p.wants(0, evCall(1, askOpen()))
			p.wants(3, withCut(evCall(1, askPut(2, 1, "a", "x")), whole, left...))
			p.wants(0, evUp(1, 1), evTick(1, 9), evCall(1, askGet(2, 2, "a")))
			isThere := whole == 2 || whole == 1 && left != nil
			text := map[bool]string{true: "is 3 x", false: "gap"}[isThere]
			index := map[bool]int{true: 5, false: 4}[isThere]
			p.wantReplies(reply(3, 3, 2, askOpen(), "open 2"), reply(7, 7, index, askGet(2, 2, "a"), text))
		}
	}
}

// leader is who leads of those that are up, in the greatest Term; 0 is none.
func (p *play) leader() int {
	found := 0
	for at, s := range p.Servers {
		if p.Up[at] && s.Node.Role == impl.RoleLead && (found == 0 || s.Node.Term > p.Servers[found-1].Node.Term) {
			found = at + 1
		}
	}
	return found
}

// drawnLeft is what the power leaves of some files.
func drawnLeft(draw func(int) int) []int {
	left := []int{}
	for range draw(6) {
		left = append(left, []int{0, draw(70), draw(500), 20000, -1}[draw(5)])
	}
	return left
}

// drawnEvent is mostly one that brings a life on.
func (p *play) drawnEvent(draw func(int) int) impl.Happen {
	node, leads := 1+draw(p.nodes), p.leader()
	if leads > 0 && draw(5) > 0 {
		node = leads
	}
	down := slices.Index(p.Up, false) + 1
	switch act := draw(50); {
	case down > 0 && act < 8:
		return evUp(down, 1+draw(4))
	case act < 4+2*min(len(p.Net), 9) && len(p.Net) > 0:
		return evDeliver(draw(min(len(p.Net), 4)) + draw(2)*len(p.Net))
	case act < 28:
		return evTick(node, 1+draw(4))
	case act < 39:
		return evCall(node, drawnCommand(draw, p.Servers[node-1].Keep))
	case act < 41:
		return impl.Happen{Kind: impl.EvSnap, Node: node}
	case act < 43:
		return evCopy(draw(20))
	case act < 45:
		return evDrop(draw(20))
	case act < 46:
		return evDown(1 + draw(p.nodes))
	case act < 47:
		return evUp(1+draw(p.nodes), 1+draw(20))
	}
	conf := drawnConf(draw)
	if conf[len(conf)-1] > p.nodes {
		conf = []int{1 + draw(p.nodes)}
	}
	return evConf(node, conf...)
}

// drawnPlay is a life of MaxEvents events, of nodes that stand soon.
func drawnPlay(t *testing.T, draw func(int) int, cuts int) *play {
	t.Helper()
	nodes := 1 + draw(4)
	p := playOf(t, nodes, []int{1, 2, 3, 4}[:1+draw(nodes)]...)
	for id := range nodes {
		if draw(3) > 0 {
			p.happens(evDown(id + 1))
			p.happens(evUp(id+1, 1+draw(5)))
		}
	}
	for len(p.events) < 60 {
		e := p.drawnEvent(draw)
		if draw(cuts) == 0 {
			e = withCut(e, draw(14)-2, drawnLeft(draw)...)
		}
		p.happens(e)
	}
	return p
}

// Whatever is lost, doubled and turned, whoever falls, and wherever the power
// goes: the promise holds, and what is answered is what the words say.
func TestDrawnClusters(t *testing.T) {
	draw, codes := fairDraws(200), [4]int{}
	leaders, entries, replies, waits, snaps, sent := 0, 0, 0, 0, 0, 0
	for life := range 5000 {
		p := drawnPlay(t, draw, []int{15, 40, 1000}[life%3])
		w := p.check()
		for _, code := range p.codes {
			codes[code]++
		}
		leaders, entries, replies, waits = leaders+len(w.Leaders), entries+len(w.Applied), replies+len(w.Replies), waits+len(w.Waits)
		for at, s := range w.Servers {
			if s.Node.Log.Start > 0 {
				snaps++
			}
			if s.Stage != "" || w.Up[at] && s.Node.Log.Start > 0 && !slices.ContainsFunc(p.events, func(e impl.Happen) bool { return e.Kind == impl.EvSnap && e.Node == at+1 }) {
				sent++
			}
		}
		if t.Failed() {
			return
		}
	}
	if codes[1] < 10000 || codes[2] < 10000 || codes[3] < 3000 {
		t.Errorf("the numbers are %v", codes)
	}
	if leaders < 4000 || entries < 20000 || replies < 10000 || waits < 2000 || snaps < 1000 || sent < 20 {
		t.Errorf("%d lead alone, %d entries are applied, %d replied, %d waited for, %d logs cut, %d by a snapshot that was sent", leaders, entries, replies, waits, snaps, sent)
	}
}

// Each life begins as one that has fewer events does.
func TestEachBeginningOfALife(t *testing.T) {
	draw := fairDraws(201)
	for range 12 {
		whole := drawnPlay(t, draw, 30)
		p := playOf(t, whole.nodes, whole.conf...)
		for _, e := range whole.events {
			p.happens(e)
			p.check()
			if t.Failed() {
				return
			}
		}
	}
}

// drawnWildEvent is right, but is about anything.
func drawnWildEvent(draw func(int) int, nodes int) impl.Happen {
	e := impl.Happen{Kind: 1 + draw(9), Node: 1 + draw(nodes), At: []int{0, 1, draw(9), math.MaxInt}[draw(4)], Limit: 1 + draw(20), Command: drawnCommand(draw, impl.KeepNew()), Cut: draw(5) == 0, Whole: []int{0, 1, 2, -1, draw(20), math.MinInt, math.MaxInt}[draw(7)], Left: drawnLeft(draw)}
	for e.Conf = drawnConf(draw); e.Conf[len(e.Conf)-1] > nodes; {
		e.Conf = drawnConf(draw)
	}
	return e
}

func TestDrawnWildEvents(t *testing.T) {
	draw := fairDraws(202)
	for range 500 {
		nodes := 1 + draw(4)
		p := playOf(t, nodes, []int{1, 2, 3, 4}[:1+draw(nodes)]...)
		for range draw(61) {
			p.happens(drawnWildEvent(draw, nodes))
		}
		p.check()
		if t.Failed() {
			return
		}
	}
}

// spansOfWorld are where the lists of a world lie, and its texts, by what they
// are a part of.
func spansOfWorld(w impl.World) ([]span, [][]string) {
	lists, texts := []span{spanOf(w.Up), spanOf(w.Servers), spanOf(w.Net), spanOf(w.Waits), spanOf(w.Leaders), spanOf(w.Applied), spanOf(w.Replies)}, [][]string{}
	for _, s := range w.Servers {
		own, ownTexts := spansOfServer(s)
		lists, texts = append(lists, own...), append(texts, ownTexts)
	}
	for _, m := range w.Net {
		lists, texts = append(lists, spanOf(m.Entries), spanOf(m.Conf)), append(texts, textsOfMessage(m))
	}
	for _, l := range w.Leaders {
		lists, texts = append(lists, spanOf(l.Log.Entries)), append(texts, textsOfMessage(impl.Message{Entries: l.Log.Entries}))
	}
	for _, a := range w.Applied {
		texts = append(texts, []string{a.Entry.Data})
	}
	for _, r := range w.Replies {
		texts = append(texts, []string{r.Command.Key, r.Command.Val, r.Text})
	}
	return lists, texts
}

// wantWorldApart: a world lies in no argument, and no two lists of it share any.
// (A reply that is kept may be one and the same text of the program.)
func wantWorldApart(t *testing.T, call string, w impl.World, codes []int, given []span, givenTexts []string) {
	t.Helper()
	lists, texts := spansOfWorld(w)
	wantSpansApart(t, call, append(lists, spanOf(codes)), given...)
	ahead := slices.Clone(givenTexts)
	for at, own := range texts {
		if at < len(w.Servers) {
			wantNewTexts(t, own, givenTexts...)
			replies := textsOfKeep(w.Servers[at].Keep)
			own = slices.DeleteFunc(own, func(text string) bool { return slices.Contains(replies, text) })
		}
		wantNewTexts(t, own, ahead...)
		ahead = append(ahead, own...)
	}
}

// roomyEvents have spare room behind each list, which the second have in them.
func roomyEvents(events []impl.Happen) ([]impl.Happen, []impl.Happen) {
	whole := append(slices.Clone(events), evDown(-7), evUp(-7, -7))
	for at := range whole {
		e := &whole[at]
		e.Conf = append(slices.Clone(e.Conf), -7, -8)
		e.Left = append(slices.Clone(e.Left), -7, -8)
		e.Command.Key, e.Command.Val = strings.Clone(e.Command.Key), strings.Clone(e.Command.Val)
	}
	cut := slices.Clone(whole)
	for at := range cut {
		e := &cut[at]
		e.Conf, e.Left = e.Conf[:len(e.Conf)-2], e.Left[:len(e.Left)-2]
	}
	return cut[:len(events)], whole
}

func TestWorldsAreNewAndNotWrittenInto(t *testing.T) {
	draw := fairDraws(203)
	for life := range 60 {
		p := drawnPlay(t, draw, 30)
		if life == 1 {
			p = snapPlay(t)
			p.wants(0, evCopy(p.placeOf(impl.AskInstall, 1)))
		}
		events, whole := roomyEvents(p.events)
		confs := append(slices.Clone(p.conf), -7, -8)
		conf := confs[:len(p.conf)]
		if life%5 == 0 {
			events[draw(len(events))].Kind = 10
		}
		was := fmt.Sprintf("%v %v", whole, confs)
		given, texts := []span{spanOf(events), spanOf(whole), spanOf(confs)}, []string{}
		for _, e := range whole {
			given = append(given, spanOf(e.Conf), spanOf(e.Left))
			texts = append(texts, e.Command.Key, e.Command.Val)
		}
		w, codes, _ := impl.RunCluster(p.nodes, conf, events)
		wantWorldApart(t, "RunCluster", w, codes, given, texts)
		w, _ = impl.WorldNew(p.nodes, conf)
		wantWorldApart(t, "WorldNew", w, nil, given, texts)
		for _, e := range events {
			impl.HappenOk(p.nodes, e)
		}
		if got := fmt.Sprintf("%v %v", whole, confs); got != was {
			t.Fatalf("an argument was written into: %s\nwas %s", got, was)
		}
	}
}

// What comes of one life says nothing of another one.
func TestClustersKeepNothing(t *testing.T) {
	draw := fairDraws(204)
	plays := []*play{}
	for range 8 {
		plays = append(plays, drawnPlay(t, draw, 30))
	}
	for range 3 {
		for _, p := range plays {
			p.check()
			wantNoCluster(t, 2, append(slices.Clone(p.events[:20]), impl.Happen{}))
			wantNoWorld(t, 1, []int{2})
		}
	}
}

// No call panics, whatever it is given.
func TestClustersOfWhateverIsGiven(t *testing.T) {
	draw, right := fairDraws(205), 0
	numbers := slices.Concat(oddInts(), sevenBitEdges(), []int{0, 1, 1, 2, 2, 3, 3, 4, 4})
	number := func() int { return numbers[draw(len(numbers))] }
	confs := wrongConfs()
	for range 4000 {
		nodes := []int{1 + draw(4), number()}[draw(8)/7]
		events := []impl.Happen{}
		for range draw(5) {
			e := drawnWildEvent(draw, max(1, min(nodes, 4)))
			switch draw(16) {
			case 0:
				e.Kind = number()
			case 1:
				e.Node = number()
			case 2:
				e.At = number()
			case 3:
				e.Limit = number()
			case 4:
				e.Command = impl.Command{Op: number(), Token: number(), Seq: number(), Key: mixedBytes(draw(12)), Val: mixedBytes(draw(24)), Ver: number()}
			case 5:
				e.Conf = confs[draw(len(confs))]
			case 6:
				e.Left = make([]int, draw(40))
			}
			wantHappenOk(t, nodes, e, plainHappenOk(nodes, e))
			events = append(events, e)
		}
		if !within(nodes, 1, 4) || slices.ContainsFunc(events, func(e impl.Happen) bool { return !plainHappenOk(nodes, e) }) {
			wantNoCluster(t, nodes, events)
			continue
		}
		right++
		p := playOf(t, nodes, 1)
		for _, e := range events {
			p.happens(e)
		}
		p.check()
		if t.Failed() {
			return
		}
	}
	if right < 1000 || right > 3500 {
		t.Errorf("%d of them are right", right)
	}
}
