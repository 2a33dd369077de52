package tests

import (
	"fmt"
	"math"
	"runtime"
	"slices"
	"strings"
	"testing"
	"unsafe"

	"loop.example/g00232/impl"
)

func TestCoreLimits(t *testing.T) {
	got := []int{impl.MaxLimit, impl.RoleFollow, impl.RoleStand, impl.RoleLead}
	if !slices.Equal(got, []int{20, 0, 1, 2}) {
		t.Errorf("limits are %v", got)
	}
}

// coreLog begins behind 10 and ends with 17; its conf stands at 12.
func coreLog() impl.Log {
	return logOf(10, 2, none(2), conf(3, "\x01\x02\x03"), command(3, "a"), command(5, "b"), command(5, "c"), command(5, "d"), command(5, "e"))
}

func follower() impl.Node {
	return impl.Node{Id: 1, Term: 6, Lead: 2, Conf: []int{1, 2}, Log: coreLog(), Commit: 13, Clock: 3, Limit: 5}
}

func stander() impl.Node {
	n := follower()
	n.Vote, n.Role, n.Lead, n.Votes = 1, impl.RoleStand, 0, []int{1}
	return n
}

// leader has four entries of its Term behind Commit.
func leader() impl.Node {
	n := follower()
	n.Term, n.Vote, n.Role, n.Lead = 5, 1, impl.RoleLead, 1
	n.Peers = []impl.Peer{peer(2, 15, 13, 7), peer(3, 16, 12, 9)}
	return n
}

func eachRole() []impl.Node { return []impl.Node{follower(), stander(), leader()} }

func peer(id, next, match, sent int) impl.Peer {
	return impl.Peer{Id: id, Next: next, Match: match, Sent: sent}
}

func changedNode(n impl.Node, change func(*impl.Node)) impl.Node {
	n = copyOfNode(n)
	change(&n)
	return n
}

func copyOfNode(n impl.Node) impl.Node {
	n.Conf, n.Votes, n.Peers = slices.Clone(n.Conf), slices.Clone(n.Votes), slices.Clone(n.Peers)
	n.Log = copyOfLog(n.Log)
	return n
}

// toldNode is another text for each other node, right or not.
func toldNode(n impl.Node) string {
	var out strings.Builder
	fmt.Fprintf(&out, "id %d term %d vote %d role %d lead %d conf %v commit %d clock %d limit %d votes %v peers %v log %d %d", n.Id, n.Term, n.Vote, n.Role, n.Lead, n.Conf, n.Commit, n.Clock, n.Limit, n.Votes, n.Peers, n.Log.Start, n.Log.StartTerm)
	for _, e := range n.Log.Entries {
		fmt.Fprintf(&out, " entry %d %d %q", e.Term, e.Kind, e.Data)
	}
	return out.String()
}

// ownNumbers has all of a node but its lists.
func ownNumbers(n impl.Node) [10]int {
	return [10]int{n.Id, n.Term, n.Vote, n.Role, n.Lead, n.Commit, n.Clock, n.Limit, n.Log.Start, n.Log.StartTerm}
}

func sameNode(a, b impl.Node) bool {
	return ownNumbers(a) == ownNumbers(b) && slices.Equal(a.Conf, b.Conf) && slices.Equal(a.Votes, b.Votes) && slices.Equal(a.Peers, b.Peers) && slices.Equal(a.Log.Entries, b.Log.Entries)
}

func toldMessages(list []impl.Message) string {
	var out strings.Builder
	for _, m := range list {
		out.WriteString(toldMessage(m) + "\n")
	}
	return out.String()
}

// A call is told where something is wrong with its answer alone.
type call func() string

func tickCall(n impl.Node, limit int) call {
	return func() string { return fmt.Sprintf("Tick of %s with %d", toldNode(n), limit) }
}

func receiveCall(n impl.Node, m impl.Message) call {
	return func() string { return "Receive of " + toldNode(n) + "\nand " + toldMessage(m) }
}

func proposeCall(n impl.Node, e impl.Entry) call {
	return func() string { return fmt.Sprintf("Propose of %s and %v", toldNode(n), e) }
}

func settleCall(n impl.Node, index int) call {
	return func() string { return fmt.Sprintf("Settle of %s at %d", toldNode(n), index) }
}

// wantCore holds what a call answered against what it should have.
func wantCore(t *testing.T, of call, got impl.Node, told []impl.Message, ok bool, want impl.Node, wantTold []impl.Message) {
	t.Helper()
	if !ok {
		t.Errorf("%s is false", of())
		return
	}
	if !sameNode(got, want) {
		t.Errorf("%s:\n%s\nwant\n%s", of(), toldNode(got), toldNode(want))
	}
	if toldMessages(told) != toldMessages(wantTold) {
		t.Errorf("%s tells\n%swant\n%s", of(), toldMessages(told), toldMessages(wantTold))
	}
}

func wantTick(t *testing.T, n impl.Node, limit int, want impl.Node, told ...impl.Message) {
	t.Helper()
	got, list, ok := impl.Tick(n, limit)
	wantCore(t, tickCall(n, limit), got, list, ok, want, told)
}

func wantNoTick(t *testing.T, n impl.Node, limit int) {
	t.Helper()
	if got, list, ok := impl.Tick(n, limit); ok || len(list) > 0 || !sameNode(got, impl.Node{}) {
		t.Errorf("Tick of %.300s with %d is %.300s, %v, %v; want none", toldNode(n), limit, toldNode(got), list, ok)
	}
}

func wantReceive(t *testing.T, n impl.Node, m impl.Message, want impl.Node, told ...impl.Message) {
	t.Helper()
	got, list, ok := impl.Receive(n, m)
	wantCore(t, receiveCall(n, m), got, list, ok, want, told)
}

func wantNoReceive(t *testing.T, n impl.Node, m impl.Message) {
	t.Helper()
	if got, list, ok := impl.Receive(n, m); ok || len(list) > 0 || !sameNode(got, impl.Node{}) {
		t.Errorf("Receive of %.300s and %.300s is %.300s, %v, %v; want none", toldNode(n), toldMessage(m), toldNode(got), list, ok)
	}
}

func wantPropose(t *testing.T, n impl.Node, e impl.Entry, index int, want impl.Node, told ...impl.Message) {
	t.Helper()
	got, list, at, ok := impl.Propose(n, e.Kind, e.Data)
	wantCore(t, proposeCall(n, e), got, list, ok, want, told)
	if ok && at != index {
		t.Errorf("Propose of %s and %v has the index %d; want %d", toldNode(n), e, at, index)
	}
}

func wantNoPropose(t *testing.T, n impl.Node, kind int, data string) {
	t.Helper()
	if got, list, index, ok := impl.Propose(n, kind, data); ok || index != 0 || len(list) > 0 || !sameNode(got, impl.Node{}) {
		t.Errorf("Propose of %.300s and %d %.40q is %.300s, %v, %d, %v; want none", toldNode(n), kind, data, toldNode(got), list, index, ok)
	}
}

func wantSettle(t *testing.T, n impl.Node, index int, want impl.Node) {
	t.Helper()
	got, ok := impl.Settle(n, index)
	wantCore(t, settleCall(n, index), got, nil, ok, want, nil)
}

func wantNoSettle(t *testing.T, n impl.Node, index int) {
	t.Helper()
	if got, ok := impl.Settle(n, index); ok || !sameNode(got, impl.Node{}) {
		t.Errorf("Settle of %.300s at %d is %.300s, %v; want none", toldNode(n), index, toldNode(got), ok)
	}
}

func wantNodeOk(t *testing.T, n impl.Node, want bool) {
	t.Helper()
	if got := impl.NodeOk(n); got != want {
		t.Errorf("NodeOk of %.400s is %v", toldNode(n), got)
	}
	if plainNodeOk(n) != want {
		t.Errorf("%.400s: the plain answer is %v", toldNode(n), !want)
	}
}

func wantConfAt(t *testing.T, n impl.Node, index int, want ...int) {
	t.Helper()
	if got := impl.ConfAt(n, index); !slices.Equal(got, want) {
		t.Errorf("ConfAt of %.400s at %d is %v; want %v", toldNode(n), index, got, want)
	}
}

func wantConfOf(t *testing.T, n impl.Node, want ...int) {
	t.Helper()
	if got := impl.ConfOf(n); !slices.Equal(got, want) {
		t.Errorf("ConfOf of %.400s is %v; want %v", toldNode(n), got, want)
	}
}

// plainConf goes through a log from its beginning up to an index.
func plainConf(n impl.Node, index int) []int {
	list := n.Conf
	for at, e := range n.Log.Entries {
		if n.Log.Start+1+at <= index && e.Kind == impl.EntryConf {
			list = []int{}
			for _, node := range []byte(e.Data) {
				list = append(list, int(node))
			}
		}
	}
	return list
}

func plainLast(n impl.Node) int { return n.Log.Start + len(n.Log.Entries) }

func plainOthers(n impl.Node) []int {
	list := []int{}
	for _, id := range plainConf(n, plainLast(n)) {
		if id != n.Id {
			list = append(list, id)
		}
	}
	return list
}

func plainPeersOk(n impl.Node) bool {
	if n.Role != impl.RoleLead {
		return len(n.Peers) == 0
	}
	ids := []int{}
	for _, p := range n.Peers {
		ids = append(ids, p.Id)
		if !within(p.Next, 1, plainLast(n)+1) || !within(p.Match, 0, p.Next-1) || !within(p.Sent, 0, 20000) {
			return false
		}
	}
	return slices.Equal(ids, plainOthers(n))
}

func plainNodeOk(n impl.Node) bool {
	if !isRightConf(n.Conf) || !impl.LogOk(n.Log) || !plainPeersOk(n) {
		return false
	}
	for _, e := range append([]impl.Entry{{Term: n.Log.StartTerm}}, n.Log.Entries...) {
		if e.Term > n.Term {
			return false
		}
	}
	if len(n.Votes) > 0 && (n.Role != impl.RoleStand || !isRightConf(n.Votes)) {
		return false
	}
	return within(n.Id, 1, 4) && n.Term <= 100000 && within(n.Vote, 0, 4) && within(n.Lead, 0, 4) && within(n.Role, 0, 2) &&
		within(n.Commit, n.Log.Start, plainLast(n)) && within(n.Clock, 0, 20) && within(n.Limit, 1, 20)
}

// A plainCore does what the chapter says word by word. It is open where the
// words leave open what is answered.
type plainCore struct {
	impl.Node
	told []impl.Message
	open bool
}

func plainOf(n impl.Node) *plainCore { return &plainCore{Node: copyOfNode(n)} }

func (p *plainCore) say(m impl.Message) {
	m.From, m.Term = p.Id, p.Term
	p.told = append(p.told, m)
}

func (p *plainCore) termOf(index int) int {
	e, there := plainLog(p.Log)[index]
	if !there {
		return -1
	}
	return e.Term
}

func (p *plainCore) at(id int) int {
	return slices.IndexFunc(p.Peers, func(other impl.Peer) bool { return other.Id == id })
}

func (p *plainCore) isMost(list []int) bool {
	return halfOf(plainConf(p.Node, plainLast(p.Node)), list)
}

func (p *plainCore) isMember() bool {
	return slices.Contains(plainConf(p.Node, plainLast(p.Node)), p.Id)
}

func (p *plainCore) send(to impl.Peer) {
	log := plainLog(p.Log)
	if to.Next <= p.Log.Start {
		p.say(impl.Message{Kind: 5, To: to.Id, Index: p.Log.Start, LogTerm: p.Log.StartTerm, Conf: p.Conf, Commit: to.Sent})
		return
	}
	m := impl.Message{Kind: 3, To: to.Id, Index: to.Next - 1, LogTerm: log[to.Next-1].Term, Commit: p.Commit}
	for index := to.Next; index < to.Next+4; index++ {
		if e, there := log[index]; there {
			m.Entries = append(m.Entries, e)
		}
	}
	p.say(m)
}

func (p *plainCore) sendEach() {
	for _, to := range p.Peers {
		p.send(to)
	}
}

func (p *plainCore) drop(lead int) {
	p.Role, p.Lead, p.Votes, p.Peers = 0, lead, nil, nil
}

func (p *plainCore) commit() {
	for index := p.Commit + 1; index <= plainLast(p.Node); index++ {
		list := []int{p.Id}
		for _, other := range p.Peers {
			if other.Match >= index {
				list = append(list, other.Id)
			}
		}
		if p.termOf(index) == p.Term && p.isMost(list) {
			p.Commit = index
		}
	}
	confs := 0
	for at, e := range p.Log.Entries {
		if e.Kind == impl.EntryConf {
			confs = p.Log.Start + 1 + at
		}
	}
	if p.Role == impl.RoleLead && !p.isMember() && confs <= p.Commit {
		p.drop(0)
		p.open = p.open || confs == 0
	}
}

func (p *plainCore) put(e impl.Entry) {
	p.Log.Entries = append(slices.Clone(p.Log.Entries), e)
}

func (p *plainCore) lead() {
	last := plainLast(p.Node)
	p.Role, p.Lead, p.Votes, p.Peers = 2, p.Id, nil, nil
	if len(p.Log.Entries) < 60 && last < 1000000 {
		p.put(none(p.Term))
	}
	for _, id := range plainOthers(p.Node) {
		p.Peers = append(p.Peers, peer(id, last+1, 0, 0))
	}
	p.commit()
	p.sendEach()
}

func (p *plainCore) tick(limit int) {
	if p.Role == impl.RoleLead {
		p.sendEach()
		return
	}
	p.Clock++
	if p.Clock < p.Limit {
		return
	}
	p.Clock, p.Limit = 0, limit
	if !p.isMember() || p.Term == 100000 {
		return
	}
	p.Term, p.Vote, p.Role, p.Lead, p.Votes = p.Term+1, p.Id, 1, 0, []int{p.Id}
	if p.isMost(p.Votes) {
		p.lead()
		return
	}
	for _, id := range plainOthers(p.Node) {
		last := plainLast(p.Node)
		p.say(impl.Message{Kind: 1, To: id, Index: last, LogTerm: p.termOf(last)})
	}
}

func (p *plainCore) receive(m impl.Message) {
	if m.Term > p.Term {
		p.Term, p.Vote = m.Term, 0
		p.drop(0)
	}
	switch {
	case m.Kind == 1:
		p.askVote(m)
	case m.Kind == 2 && m.Ok && m.Term == p.Term && p.Role == 1:
		p.Votes = slices.Compact(slices.Sorted(slices.Values(append(p.Votes, m.From))))
		if p.isMost(p.Votes) {
			p.lead()
		}
	case m.Kind == 3 && m.Term < p.Term:
		p.say(impl.Message{Kind: 4, To: m.From})
	case m.Kind == 3:
		p.drop(m.From)
		p.Clock = 0
		p.askAppend(m)
	case m.Kind == 5 && m.Term == p.Term:
		p.drop(m.From)
		p.Clock = 0
	case (m.Kind == 4 || m.Kind == 6) && m.Term == p.Term && p.at(m.From) >= 0:
		p.tell(m, &p.Peers[p.at(m.From)])
	}
}

func (p *plainCore) askVote(m impl.Message) {
	last := plainLast(p.Node)
	term := p.termOf(last)
	ok := m.Term == p.Term && (p.Vote == 0 || p.Vote == m.From) && (m.LogTerm > term || m.LogTerm == term && m.Index >= last)
	if ok {
		p.Vote, p.Clock = m.From, 0
	}
	p.say(impl.Message{Kind: 2, To: m.From, Ok: ok})
}

func (p *plainCore) askAppend(m impl.Message) {
	for m.Index < p.Log.Start {
		if len(m.Entries) > 0 {
			m.Entries = m.Entries[1:]
		}
		m.Index, m.LogTerm = m.Index+1, p.Log.StartTerm
		if len(m.Entries) == 0 {
			m.Index = p.Log.Start
		}
	}
	last := plainLast(p.Node)
	reply := impl.Message{Kind: 4, To: m.From, Index: last}
	if m.LogTerm != p.termOf(m.Index) {
		reply.Index = max(0, m.Index-1)
		if last < reply.Index {
			reply.Index = last
		}
		p.say(reply)
		return
	}
	now, firstGone := impl.Log{Start: p.Log.Start, StartTerm: p.Log.StartTerm, Entries: p.Log.Entries}, last+1
	for at, e := range m.Entries {
		index := m.Index + 1 + at
		if there, is := plainLog(now)[index]; !is || there.Term != e.Term {
			firstGone = min(firstGone, index)
			now.Entries = append(slices.Clone(now.Entries[:index-now.Start-1]), e)
		}
	}
	if firstGone > p.Commit && impl.LogOk(now) {
		reply.Ok, reply.Index, p.Log = true, m.Index+len(m.Entries), now
		p.Commit = max(p.Commit, min(m.Commit, reply.Index))
	}
	p.say(reply)
}

func (p *plainCore) tell(m impl.Message, of *impl.Peer) {
	last := plainLast(p.Node)
	if !m.Ok {
		if m.Kind == 4 && m.Index+1 < of.Next {
			of.Next = max(m.Index, of.Match) + 1
		}
		if m.Kind == 6 {
			of.Sent = 0
			if m.Index == p.Log.Start {
				of.Sent = m.Commit
			}
		}
		p.send(*of)
		return
	}
	sent := of.Sent
	of.Match = max(of.Match, min(m.Index, last))
	of.Next = of.Match + 1
	if m.Kind == 6 {
		of.Sent = 0
		p.open = sent > 0 && of.Next <= p.Log.Start
	}
	was := *of
	p.commit()
	if p.Role == impl.RoleLead && was.Next <= last {
		p.send(was)
	}
	p.open = p.open || p.Role != impl.RoleLead && was.Next <= last
}

func plainChange(n impl.Node, data string) bool {
	of, to := plainConf(n, plainLast(n)), []int{}
	for _, node := range []byte(data) {
		to = append(to, int(node))
	}
	unlike := 0
	for id := 1; id <= 4; id++ {
		if slices.Contains(of, id) != slices.Contains(to, id) {
			unlike++
		}
	}
	for index := n.Commit + 1; index <= plainLast(n); index++ {
		if plainLog(n.Log)[index].Kind == impl.EntryConf {
			return false
		}
	}
	return unlike == 1 && plainLog(n.Log)[n.Commit].Term == n.Term
}

func (p *plainCore) propose(e impl.Entry) bool {
	last := plainLast(p.Node)
	e.Term = p.Term
	if p.Role != impl.RoleLead || !plainEntryOk(e) || len(p.Log.Entries) >= 60 || last >= 1000000 || e.Kind == 2 && !plainChange(p.Node, e.Data) {
		return false
	}
	p.put(e)
	if e.Kind == impl.EntryConf {
		was := p.Peers
		p.Peers = nil
		for _, id := range plainOthers(p.Node) {
			one := peer(id, last+1, 0, 0)
			for _, other := range was {
				if other.Id == id {
					one = other
				}
			}
			p.Peers = append(p.Peers, one)
		}
	}
	p.commit()
	p.sendEach()
	return true
}

// isToldByNone: no right server asks for a snapshot from behind its greatest
// length on. The words hold of such a message, but not the promise.
func isToldByNone(m impl.Message) bool { return m.Kind == impl.TellInstall && m.Commit > 20000 }

// wantKept is promise 18 of one step from one right node to another.
func wantKept(t *testing.T, of call, n, then impl.Node, told []impl.Message) {
	t.Helper()
	if !impl.NodeOk(then) || !plainNodeOk(then) {
		t.Errorf("%s: not right: %s", of(), toldNode(then))
	}
	if then.Id != n.Id || then.Term < n.Term || then.Commit < n.Commit {
		t.Errorf("%s: the Term or the Commit falls: %s", of(), toldNode(then))
	}
	if then.Term == n.Term && n.Vote != 0 && then.Vote != n.Vote {
		t.Errorf("%s: the Vote goes: %s", of(), toldNode(then))
	}
	for index := then.Log.Start + 1; index <= n.Commit; index++ {
		if plainLog(then.Log)[index] != plainLog(n.Log)[index] {
			t.Errorf("%s: what is agreed on at %d goes: %s", of(), index, toldNode(then))
		}
	}
	for _, m := range told {
		if !impl.MessageOk(m) || m.From != n.Id || m.Term != then.Term {
			t.Errorf("%s: it tells %s", of(), toldMessage(m))
		}
	}
}

func checkTick(t *testing.T, n impl.Node, limit int) (impl.Node, []impl.Message) {
	t.Helper()
	p := plainOf(n)
	p.tick(limit)
	then, told, _ := impl.Tick(n, limit)
	if !p.open {
		wantTick(t, n, limit, p.Node, p.told...)
	}
	wantKept(t, tickCall(n, limit), n, then, told)
	return then, told
}

func checkReceive(t *testing.T, n impl.Node, m impl.Message) (impl.Node, []impl.Message) {
	t.Helper()
	p := plainOf(n)
	p.receive(m)
	then, told, ok := impl.Receive(n, m)
	if !p.open {
		wantReceive(t, n, m, p.Node, p.told...)
	}
	if !ok {
		t.Errorf("Receive of %s and %s is false", toldNode(n), toldMessage(m))
	}
	if !isToldByNone(m) {
		wantKept(t, receiveCall(n, m), n, then, told)
	}
	return then, told
}

func checkPropose(t *testing.T, n impl.Node, kind int, data string) (impl.Node, []impl.Message, bool) {
	t.Helper()
	p := plainOf(n)
	if !p.propose(entry(0, kind, data)) {
		wantNoPropose(t, n, kind, data)
		return n, nil, false
	}
	then, told, index, ok := impl.Propose(n, kind, data)
	if !p.open {
		wantPropose(t, n, entry(0, kind, data), plainLast(n)+1, p.Node, p.told...)
	}
	if !ok || index != plainLast(n)+1 {
		t.Errorf("Propose of %s is %d, %v", toldNode(n), index, ok)
	}
	wantKept(t, proposeCall(n, entry(0, kind, data)), n, then, told)
	return then, told, true
}

func checkSettle(t *testing.T, n impl.Node, index int) impl.Node {
	t.Helper()
	want := copyOfNode(n)
	want.Conf = plainConf(n, index)
	want.Log = impl.Log{Start: index, StartTerm: plainLog(n.Log)[index].Term, Entries: n.Log.Entries[index-n.Log.Start:]}
	wantSettle(t, n, index, want)
	then, _ := impl.Settle(n, index)
	wantKept(t, settleCall(n, index), n, then, nil)
	return then
}

// farIndexes are as far off as may be.
func farIndexes() []int {
	return []int{math.MinInt, math.MinInt + 1, -1 << 32, -1, 0, 1, 1 << 32, math.MaxInt - 1, math.MaxInt}
}

func TestConfOfAndConfAt(t *testing.T) {
	n := impl.Node{Id: 1, Conf: []int{1, 2}, Limit: 3}
	wantConfOf(t, n, 1, 2)
	for _, index := range append(farIndexes(), 2, 10, 60) {
		wantConfAt(t, n, index, 1, 2)
	}
	n.Log = logOf(10, 2, none(2), conf(2, "\x01\x02\x03"), command(2, "\x04"), command(2, "\x01\x02"))
	wantConfOf(t, n, 1, 2, 3)
	n.Log.Entries = append(n.Log.Entries, conf(3, "\x01\x03"), conf(3, "\x03"), none(3))
	wantConfOf(t, n, 3)
	for index := -3; index <= 30; index++ {
		want := []int{3}
		switch {
		case index < 12:
			want = []int{1, 2}
		case index < 15:
			want = []int{1, 2, 3}
		case index < 16:
			want = []int{1, 3}
		}
		wantConfAt(t, n, index, want...)
	}
	for _, index := range farIndexes() {
		if index < 12 {
			wantConfAt(t, n, index, 1, 2)
		} else {
			wantConfAt(t, n, index, 3)
		}
	}
}

// Nobody asks whether a node is right ahead of telling its conf.
func TestConfOfAndConfAtOfWrongNodes(t *testing.T) {
	wantConfOf(t, impl.Node{})
	wantConfAt(t, impl.Node{}, 0)
	wantConfAt(t, impl.Node{}, 7)
	empty := impl.Node{Id: 9, Term: -4, Log: logOf(3, 7, none(1), conf(0, "\x02\x04"), none(500000))}
	wantConfOf(t, empty, 2, 4)
	for _, index := range []int{0, 3, 4, 5, 6, 7} {
		if index < 5 {
			wantConfAt(t, empty, index)
		} else {
			wantConfAt(t, empty, index, 2, 4)
		}
	}
	below := impl.Node{Conf: []int{4}, Log: logOf(-3, 0, none(0), conf(0, "\x01"), conf(0, "\x02"))}
	for index, want := range map[int]int{-4: 4, -3: 4, -2: 4, -1: 1, 0: 2, 1: 2, math.MinInt: 4, math.MaxInt: 2} {
		wantConfAt(t, below, index, want)
	}
	least := impl.Node{Conf: []int{4}, Log: logOf(math.MinInt, 0, none(0), conf(0, "\x01"))}
	for index, want := range map[int]int{math.MinInt: 4, math.MinInt + 1: 4, math.MinInt + 2: 1, -1: 1, 0: 1, 1: 1, math.MaxInt: 1} {
		wantConfAt(t, least, index, want)
	}
	greatest := impl.Node{Conf: []int{4}, Log: logOf(math.MaxInt-1, 0, none(0), conf(0, "\x01"))}
	for _, index := range farIndexes() {
		wantConfAt(t, greatest, index, 4)
	}
	wantConfOf(t, greatest, 1)
	for _, list := range wrongConfs() {
		wantConfOf(t, impl.Node{Conf: list}, list...)
		wantConfAt(t, impl.Node{Conf: list}, 3, list...)
	}
}

func TestConfOfEachRightConf(t *testing.T) {
	for text, list := range rightConfs() {
		n := impl.Node{Conf: list}
		wantConfOf(t, n, list...)
		wantConfAt(t, n, 0, list...)
		n = impl.Node{Conf: []int{1, 4}, Log: logOf(0, 0, conf(1, "\x02\x03"), conf(1, text))}
		wantConfOf(t, n, list...)
		wantConfAt(t, n, 2, list...)
		wantConfAt(t, n, 1, 2, 3)
	}
}

func TestRightNodes(t *testing.T) {
	for _, n := range eachRole() {
		wantNodeOk(t, n, true)
	}
	wantNodeOk(t, impl.Node{}, false)
	wantNodeOk(t, impl.Node{Id: 1, Conf: []int{1}, Limit: 1}, true)
	wantNodeOk(t, impl.Node{Id: 4, Conf: []int{1}, Limit: 20, Role: impl.RoleStand, Votes: []int{1, 2, 3, 4}}, true)
	wantNodeOk(t, impl.Node{Id: 1, Conf: []int{1}, Limit: 20, Role: impl.RoleLead}, true)
	wantNodeOk(t, impl.Node{Id: 2, Conf: []int{1}, Limit: 20, Role: impl.RoleLead}, false)
	wantNodeOk(t, impl.Node{Id: 2, Conf: []int{1}, Limit: 20, Role: impl.RoleLead, Peers: []impl.Peer{peer(1, 1, 0, 0)}}, true)
}

// nodeNumbers are the fields of a node of its own, each with what it may be of
// each of eachRole.
func nodeNumbers() map[string]func(n *impl.Node) (*int, int, int) {
	return map[string]func(n *impl.Node) (*int, int, int){
		"Term":   func(n *impl.Node) (*int, int, int) { return &n.Term, 5, 100000 },
		"Vote":   func(n *impl.Node) (*int, int, int) { return &n.Vote, 0, 4 },
		"Lead":   func(n *impl.Node) (*int, int, int) { return &n.Lead, 0, 4 },
		"Commit": func(n *impl.Node) (*int, int, int) { return &n.Commit, 10, 17 },
		"Clock":  func(n *impl.Node) (*int, int, int) { return &n.Clock, 0, 20 },
		"Limit":  func(n *impl.Node) (*int, int, int) { return &n.Limit, 1, 20 },
	}
}

func TestNodesOfEachNumber(t *testing.T) {
	for name, field := range nodeNumbers() {
		for _, n := range eachRole() {
			for _, number := range slices.Concat(oddInts(), []int{6, 7, 8, 9, 10, 11, 16, 17, 18, 19, 20, 21, 22, 99999, 100000, 100001, 1000000, -20, 1<<32 + 3}) {
				other := copyOfNode(n)
				of, least, most := field(&other)
				*of = number
				if impl.NodeOk(other) != within(number, least, most) {
					t.Errorf("the %s %d is told wrong", name, number)
				}
				wantNodeOk(t, other, within(number, least, most))
			}
		}
	}
}

func TestNodesOfEachIdAndRole(t *testing.T) {
	for _, number := range slices.Concat(oddInts(), []int{-4, 6, 7, 1<<32 + 1, 257}) {
		for _, n := range []impl.Node{follower(), stander()} {
			wantNodeOk(t, changedNode(n, func(n *impl.Node) { n.Id = number }), within(number, 1, 4))
			wantNodeOk(t, changedNode(n, func(n *impl.Node) { n.Role, n.Votes = number, nil }), number == 0 || number == 1)
		}
		wantNodeOk(t, changedNode(leader(), func(n *impl.Node) { n.Id = number }), number == 1)
		wantNodeOk(t, changedNode(leader(), func(n *impl.Node) { n.Role = number }), number == 2)
		wantNodeOk(t, impl.Node{Id: 1, Conf: []int{1}, Limit: 9, Role: number}, within(number, 0, 2))
		alone := impl.Node{Id: number, Conf: []int{3}, Limit: 9, Role: impl.RoleLead}
		wantNodeOk(t, alone, number == 3)
	}
}

func TestNodesOfEachTermOfTheLog(t *testing.T) {
	for term := range 9 {
		wantNodeOk(t, changedNode(follower(), func(n *impl.Node) { n.Term = term }), term >= 5)
		n := impl.Node{Id: 1, Term: term, Conf: []int{1}, Log: logOf(7, 3), Commit: 7, Limit: 2}
		wantNodeOk(t, n, term >= 3)
		n.Log.Entries = noneOf(3, 6)
		wantNodeOk(t, n, term >= 6)
	}
}

func TestNodesOfEachLogAndConf(t *testing.T) {
	for _, l := range rightLogs() {
		n := impl.Node{Id: 1, Term: 100000, Conf: []int{1, 2}, Log: l, Commit: l.Start, Limit: 2}
		wantNodeOk(t, n, true)
		n.Commit = l.Start + len(l.Entries)
		wantNodeOk(t, n, true)
		n.Commit++
		wantNodeOk(t, n, false)
		n.Commit = l.Start - 1
		wantNodeOk(t, n, false)
	}
	for _, l := range wrongLogs() {
		wantNodeOk(t, impl.Node{Id: 1, Term: 100000, Conf: []int{1, 2}, Log: l, Commit: l.Start, Limit: 2}, false)
	}
	for _, n := range eachRole() {
		for _, list := range rightConfs() {
			wantNodeOk(t, changedNode(n, func(n *impl.Node) { n.Conf = list }), true)
		}
		for _, list := range wrongConfs() {
			wantNodeOk(t, changedNode(n, func(n *impl.Node) { n.Conf = list }), false)
		}
	}
}

func TestNodesOfEachVotes(t *testing.T) {
	right := 0
	for length := range 6 {
		eachList([]int{0, 1, 2, 3, 4, 5}, length, func(list []int) {
			n := changedNode(stander(), func(n *impl.Node) { n.Votes = slices.Clone(list) })
			isRight := length == 0 || isRightConf(list)
			wantNodeOk(t, n, isRight)
			if impl.NodeOk(n) {
				right++
			}
			for _, other := range []impl.Node{follower(), leader()} {
				other.Votes = slices.Clone(list)
				wantNodeOk(t, other, length == 0)
			}
		})
	}
	if right != 16 {
		t.Errorf("%d lists of Votes are right", right)
	}
	for _, list := range wrongConfs() {
		wantNodeOk(t, changedNode(stander(), func(n *impl.Node) { n.Votes = list }), len(list) == 0)
	}
}

func TestNodesOfEachIdsOfPeers(t *testing.T) {
	for length := range 5 {
		eachList([]int{0, 1, 2, 3, 4, 5}, length, func(list []int) {
			peers := []impl.Peer{}
			for _, id := range list {
				peers = append(peers, peer(id, 15, 13, 0))
			}
			wantNodeOk(t, changedNode(leader(), func(n *impl.Node) { n.Peers = peers }), slices.Equal(list, []int{2, 3}))
			for _, n := range []impl.Node{follower(), stander()} {
				n.Peers = peers
				wantNodeOk(t, n, length == 0)
			}
			all := changedNode(leader(), func(n *impl.Node) { n.Peers, n.Log.Entries[1] = peers, none(3) })
			wantNodeOk(t, all, slices.Equal(list, []int{2}))
			all.Conf = []int{2, 3, 4}
			wantNodeOk(t, all, slices.Equal(list, []int{2, 3, 4}))
			all.Id, all.Conf = 3, []int{1, 2, 3, 4}
			wantNodeOk(t, all, slices.Equal(list, []int{1, 2, 4}))
		})
	}
}

// Peers are those of the conf that holds now, not of the one that the log
// begins with, nor of one between.
func TestNodesWhoseConfChanges(t *testing.T) {
	n := leader()
	n.Log.Entries[6] = conf(5, "\x01\x02\x03\x04")
	wantNodeOk(t, n, false)
	n.Peers = append(n.Peers, peer(4, 17, 0, 0))
	wantNodeOk(t, n, true)
	n.Log.Entries[6] = conf(5, "\x02\x04")
	wantNodeOk(t, n, false)
	n.Peers = slices.Delete(n.Peers, 1, 2)
	wantNodeOk(t, n, true)
	n.Log.Entries[6] = conf(5, "\x01")
	wantNodeOk(t, n, false)
	n.Peers = nil
	wantNodeOk(t, n, true)
}

func TestNodesOfEachPeer(t *testing.T) {
	for next := -2; next <= 20; next++ {
		for match := -2; match <= 20; match++ {
			isRight := within(next, 1, 18) && within(match, 0, next-1)
			for at := range 2 {
				wantNodeOk(t, changedNode(leader(), func(n *impl.Node) { n.Peers[at].Next, n.Peers[at].Match = next, match }), isRight)
			}
		}
	}
	for _, number := range slices.Concat(oddInts(), []int{19999, 20000, 20001}) {
		for at := range 2 {
			wantNodeOk(t, changedNode(leader(), func(n *impl.Node) { n.Peers[at].Sent = number }), within(number, 0, 20000))
			wantNodeOk(t, changedNode(leader(), func(n *impl.Node) { n.Peers[at].Next = number }), within(number, 14-at, 18))
			wantNodeOk(t, changedNode(leader(), func(n *impl.Node) { n.Peers[at].Match = number }), within(number, 0, 14+at))
		}
	}
	empty := impl.Node{Id: 1, Conf: []int{1, 2}, Limit: 9, Role: impl.RoleLead}
	for next := -1; next <= 3; next++ {
		wantNodeOk(t, changedNode(empty, func(n *impl.Node) { n.Peers = []impl.Peer{peer(2, next, 0, 0)} }), next == 1)
	}
}

func TestNodeNew(t *testing.T) {
	for _, id := range slices.Concat(oddInts(), []int{-4, 6, 257}) {
		for _, list := range rightConfs() {
			n, ok := impl.NodeNew(id, list)
			want := impl.Node{}
			if within(id, 1, 4) {
				want = impl.Node{Id: id, Conf: list, Limit: 20}
			}
			if ok != within(id, 1, 4) || !sameNode(n, want) {
				t.Errorf("NodeNew(%d, %v) = %v, %v", id, list, n, ok)
			}
		}
		for _, list := range wrongConfs() {
			if n, ok := impl.NodeNew(id, list); ok || !sameNode(n, impl.Node{}) {
				t.Errorf("NodeNew(%d, %v) = %v, %v; want none", id, list, n, ok)
			}
		}
	}
}

func asksVote(from, to, term, index, logTerm int) impl.Message {
	return impl.Message{Kind: impl.AskVote, From: from, To: to, Term: term, Index: index, LogTerm: logTerm}
}

func tellsVote(from, to, term int, ok bool) impl.Message {
	return impl.Message{Kind: impl.TellVote, From: from, To: to, Term: term, Ok: ok}
}

func asksAppend(from, to, term, index, logTerm, commit int, entries ...impl.Entry) impl.Message {
	return impl.Message{Kind: impl.AskAppend, From: from, To: to, Term: term, Index: index, LogTerm: logTerm, Commit: commit, Entries: entries}
}

func tellsAppend(from, to, term int, ok bool, index int) impl.Message {
	return impl.Message{Kind: impl.TellAppend, From: from, To: to, Term: term, Ok: ok, Index: index}
}

func asksInstall(from, to, term, index, logTerm, commit int, conf ...int) impl.Message {
	return impl.Message{Kind: impl.AskInstall, From: from, To: to, Term: term, Index: index, LogTerm: logTerm, Commit: commit, Conf: conf}
}

func tellsInstall(from, to, term int, ok bool, index, commit int) impl.Message {
	return impl.Message{Kind: impl.TellInstall, From: from, To: to, Term: term, Ok: ok, Index: index, Commit: commit}
}

// standing is what becomes of a node that stands.
func standing(n impl.Node, limit int) impl.Node {
	return changedNode(n, func(n *impl.Node) {
		n.Term, n.Vote, n.Role, n.Lead, n.Votes, n.Clock, n.Limit = n.Term+1, n.Id, impl.RoleStand, 0, []int{n.Id}, 0, limit
	})
}

func TestTicksUpToTheLimit(t *testing.T) {
	for _, n := range []impl.Node{follower(), stander()} {
		for limit := 1; limit <= 20; limit++ {
			for clock := range 21 {
				one := changedNode(n, func(n *impl.Node) { n.Clock, n.Limit = clock, limit })
				if clock+1 < limit {
					wantTick(t, one, 9, changedNode(one, func(n *impl.Node) { n.Clock = clock + 1 }))
				} else {
					wantTick(t, one, 9, standing(one, 9), asksVote(1, 2, 7, 17, 5), asksVote(1, 3, 7, 17, 5))
				}
			}
		}
	}
}

func TestTicksOfEachLimit(t *testing.T) {
	for _, limit := range slices.Concat(oddInts(), []int{6, 10, 19, 20, 21, 22, -20, 257, 1<<32 + 1}) {
		for _, n := range eachRole() {
			for _, clock := range []int{3, 4} {
				n.Clock = clock
				if !within(limit, 1, 20) {
					wantNoTick(t, n, limit)
					continue
				}
				switch {
				case n.Role == impl.RoleLead:
					wantTick(t, n, limit, n, asksAppend(1, 2, 5, 14, 5, 13, coreLog().Entries[4:]...), asksAppend(1, 3, 5, 15, 5, 13, coreLog().Entries[5:]...))
				case clock == 3:
					wantTick(t, n, limit, changedNode(n, func(n *impl.Node) { n.Clock = 4 }))
				default:
					wantTick(t, n, limit, standing(n, limit), asksVote(1, 2, 7, 17, 5), asksVote(1, 3, 7, 17, 5))
				}
			}
		}
	}
}

// One that stands, and has some Votes already, begins anew.
func TestATickOfOneThatStandsAgain(t *testing.T) {
	n := changedNode(stander(), func(n *impl.Node) { n.Votes, n.Clock, n.Vote, n.Lead = []int{1, 4}, 4, 3, 2 })
	wantTick(t, n, 12, standing(n, 12), asksVote(1, 2, 7, 17, 5), asksVote(1, 3, 7, 17, 5))
}

func TestTicksOfANodeThatIsInNoConf(t *testing.T) {
	for _, n := range []impl.Node{follower(), stander()} {
		n.Id, n.Clock = 4, 4
		wantTick(t, n, 9, changedNode(n, func(n *impl.Node) { n.Clock, n.Limit = 0, 9 }))
		n.Conf = []int{2, 4}
		wantTick(t, n, 9, changedNode(n, func(n *impl.Node) { n.Clock, n.Limit = 0, 9 }))
		n.Conf, n.Log.Entries[4] = []int{1, 2}, conf(5, "\x02\x04")
		wantTick(t, n, 9, standing(n, 9), asksVote(4, 2, 7, 17, 5))
		n.Log.Entries[5] = conf(5, "\x01\x02")
		wantTick(t, n, 9, changedNode(n, func(n *impl.Node) { n.Clock, n.Limit = 0, 9 }))
	}
}

func TestTicksNearTheGreatestTerm(t *testing.T) {
	for _, n := range []impl.Node{follower(), stander()} {
		n.Term, n.Clock = 99999, 4
		wantTick(t, n, 9, standing(n, 9), asksVote(1, 2, 100000, 17, 5), asksVote(1, 3, 100000, 17, 5))
		n.Term = 100000
		wantTick(t, n, 9, changedNode(n, func(n *impl.Node) { n.Clock, n.Limit = 0, 9 }))
	}
	alone := impl.Node{Id: 2, Term: 100000, Conf: []int{2}, Limit: 1}
	wantTick(t, alone, 3, impl.Node{Id: 2, Term: 100000, Conf: []int{2}, Limit: 3})
}

// Who is asked, and in which order, hangs on the conf that holds now.
func TestWhoIsAskedForAVote(t *testing.T) {
	for text, list := range rightConfs() {
		for _, id := range list {
			n := impl.Node{Id: id, Term: 3, Conf: []int{id}, Log: logOf(5, 1, conf(2, text), command(3, "x")), Commit: 5, Limit: 1}
			want, told := standing(n, 8), []impl.Message{}
			for _, other := range list {
				if other != id {
					told = append(told, asksVote(id, other, 4, 7, 3))
				}
			}
			if len(list) == 1 {
				want = changedNode(want, func(n *impl.Node) { n.Role, n.Lead, n.Votes, n.Commit = impl.RoleLead, id, nil, 8 })
				want.Log.Entries = append(want.Log.Entries, none(4))
			}
			wantTick(t, n, 8, want, told...)
		}
	}
}

func aloneBehind(start, count, term int) impl.Node {
	return impl.Node{Id: 3, Term: term, Conf: []int{3}, Log: logOf(start, term, unlikeEntries(count, term)...), Commit: start, Clock: 0, Limit: 1}
}

// wantAlone leads at once: all is committed, when an entry of its own was put.
func wantAlone(t *testing.T, n impl.Node, isPut bool) {
	t.Helper()
	want := standing(n, 7)
	want.Role, want.Lead, want.Votes = impl.RoleLead, 3, nil
	if isPut {
		want.Log.Entries = append(want.Log.Entries, none(n.Term+1))
		want.Commit = plainLast(want)
	}
	wantTick(t, n, 7, want)
}

func TestANodeAloneLeadsAtOnce(t *testing.T) {
	wantAlone(t, impl.Node{Id: 3, Conf: []int{3}, Limit: 1}, true)
	for count := range 61 {
		wantAlone(t, aloneBehind(9, count, 4), count < 60)
	}
	for below := range 62 {
		wantAlone(t, aloneBehind(1000000-below, min(below, 60), 4), below > min(below, 60) && below < 61)
		wantAlone(t, aloneBehind(1000000-below, 0, 4), below > 0)
	}
	wantAlone(t, aloneBehind(0, 3, 99999), true)
}

// Conf is told of a log's beginning, not of now.
func TestTicksOfOneThatLeads(t *testing.T) {
	e := coreLog().Entries
	wanted := map[int]impl.Message{
		18: asksAppend(1, 2, 5, 17, 5, 13), 17: asksAppend(1, 2, 5, 16, 5, 13, e[6]), 16: asksAppend(1, 2, 5, 15, 5, 13, e[5:]...),
		15: asksAppend(1, 2, 5, 14, 5, 13, e[4:]...), 14: asksAppend(1, 2, 5, 13, 3, 13, e[3:]...), 13: asksAppend(1, 2, 5, 12, 3, 13, e[2:6]...),
		12: asksAppend(1, 2, 5, 11, 2, 13, e[1:5]...), 11: asksAppend(1, 2, 5, 10, 2, 13, e[0:4]...),
	}
	for next := 1; next <= 10; next++ {
		wanted[next] = asksInstall(1, 2, 5, 10, 2, 7, 1, 2)
	}
	for next, first := range wanted {
		for other, second := range wanted {
			n := leader()
			n.Peers = []impl.Peer{peer(2, next, 0, 7), peer(3, other, 0, 20000)}
			second.To = 3
			if second.Kind == impl.AskInstall {
				second.Commit = 20000
			}
			wantTick(t, n, 9, n, first, second)
		}
	}
}

func TestTicksOfOneThatLeadsOthers(t *testing.T) {
	n := impl.Node{Id: 3, Term: 4, Role: impl.RoleLead, Lead: 3, Conf: []int{1, 2, 3, 4}, Log: logOf(6, 2, none(3)), Commit: 7, Clock: 20, Limit: 1}
	n.Peers = []impl.Peer{peer(1, 7, 0, 0), peer(2, 6, 0, 5), peer(4, 8, 7, 0)}
	wantTick(t, n, 9, n, asksAppend(3, 1, 4, 6, 2, 7, none(3)), asksInstall(3, 2, 4, 6, 2, 5, 1, 2, 3, 4), asksAppend(3, 4, 4, 7, 3, 7))
	alone := impl.Node{Id: 2, Term: 4, Role: impl.RoleLead, Conf: []int{2}, Log: logOf(6, 2, none(4)), Commit: 6, Limit: 1}
	wantTick(t, alone, 9, alone)
}

// A Term above the node's takes all else that hangs on the Term away; Clock and
// the log stay.
func TestMessagesOfAGreaterTerm(t *testing.T) {
	for _, n := range eachRole() {
		for _, term := range []int{n.Term + 1, n.Term + 2, 100000} {
			fallen := changedNode(n, func(n *impl.Node) {
				n.Term, n.Vote, n.Role, n.Lead, n.Votes, n.Peers = term, 0, impl.RoleFollow, 0, nil, nil
			})
			heeds := changedNode(fallen, func(n *impl.Node) { n.Lead, n.Clock = 3, 0 })
			wantReceive(t, n, asksVote(3, 1, term, 17, 5), changedNode(fallen, func(n *impl.Node) { n.Vote, n.Clock = 3, 0 }), tellsVote(1, 3, term, true))
			wantReceive(t, n, asksVote(3, 1, term, 16, 5), fallen, tellsVote(1, 3, term, false))
			wantReceive(t, n, asksAppend(3, 1, term, 17, 5, 0), heeds, tellsAppend(1, 3, term, true, 17))
			wantReceive(t, n, asksInstall(3, 1, term, 30, 5, 0, 1), heeds)
			for _, ok := range []bool{true, false} {
				wantReceive(t, n, tellsVote(3, 1, term, ok), fallen)
				wantReceive(t, n, tellsAppend(3, 1, term, ok, 17), fallen)
				wantReceive(t, n, tellsInstall(3, 1, term, ok, 10, 3), fallen)
			}
		}
	}
}

func TestMessagesOfALesserTerm(t *testing.T) {
	for _, n := range eachRole() {
		for _, term := range []int{n.Term - 1, n.Term - 2, 0} {
			wantReceive(t, n, asksVote(3, 1, term, 17, 5), n, tellsVote(1, 3, n.Term, false))
			wantReceive(t, n, asksVote(3, 1, term, 1000000, 100000), n, tellsVote(1, 3, n.Term, false))
			wantReceive(t, n, asksAppend(3, 1, term, 17, 5, 17), n, tellsAppend(1, 3, n.Term, false, 0))
			wantReceive(t, n, asksAppend(3, 1, term, 11, 0, 17, none(0)), n, tellsAppend(1, 3, n.Term, false, 0))
			wantReceive(t, n, asksInstall(3, 1, term, 30, 5, 0, 1), n)
			for _, ok := range []bool{true, false} {
				wantReceive(t, n, tellsVote(3, 1, term, ok), n)
				wantReceive(t, n, tellsAppend(3, 1, term, ok, 17), n)
				wantReceive(t, n, tellsInstall(3, 1, term, ok, 10, 3), n)
			}
		}
	}
}

func TestAVoteIsGivenOnce(t *testing.T) {
	n := follower()
	voted := changedNode(n, func(n *impl.Node) { n.Vote, n.Clock = 3, 0 })
	wantReceive(t, n, asksVote(3, 1, 6, 17, 5), voted, tellsVote(1, 3, 6, true))
	later := changedNode(voted, func(n *impl.Node) { n.Clock = 4 })
	wantReceive(t, later, asksVote(3, 1, 6, 17, 5), voted, tellsVote(1, 3, 6, true))
	for _, other := range []int{2, 4} {
		wantReceive(t, later, asksVote(other, 1, 6, 1000000, 100000), later, tellsVote(1, other, 6, false))
	}
	for vote := range 5 {
		for from := 2; from <= 4; from++ {
			for _, n := range eachRole() {
				n.Vote = vote
				ok := vote == 0 || vote == from
				want := copyOfNode(n)
				if ok {
					want.Vote, want.Clock = from, 0
				}
				wantReceive(t, n, asksVote(from, 1, n.Term, 17, 5), want, tellsVote(1, from, n.Term, ok))
			}
		}
	}
}

// The term of the last entry counts first; then how far the log goes.
func TestAVoteForALogThatIsNotBehind(t *testing.T) {
	for term := range 9 {
		for _, index := range []int{0, 1, 10, 16, 17, 18, 25, 1000000} {
			n, ok := follower(), term > 5 || term == 5 && index >= 17
			want := changedNode(n, func(n *impl.Node) {
				if ok {
					n.Vote, n.Clock = 4, 0
				}
			})
			wantReceive(t, n, asksVote(4, 1, 6, index, term), want, tellsVote(1, 4, 6, ok))
		}
	}
	empty := impl.Node{Id: 1, Term: 3, Conf: []int{1, 2}, Log: logOf(8, 2), Commit: 8, Limit: 4}
	for term := range 4 {
		for index := 6; index <= 10; index++ {
			ok := term > 2 || term == 2 && index >= 8
			want := changedNode(empty, func(n *impl.Node) {
				if ok {
					n.Vote = 2
				}
			})
			wantReceive(t, empty, asksVote(2, 1, 3, index, term), want, tellsVote(1, 2, 3, ok))
		}
	}
}

// leading is what becomes of a node that begins to lead: nothing is committed.
func leading(n impl.Node) impl.Node {
	last := plainLast(n)
	return changedNode(n, func(n *impl.Node) {
		n.Role, n.Lead, n.Votes = impl.RoleLead, n.Id, nil
		n.Log.Entries = append(n.Log.Entries, none(n.Term))
		for _, id := range plainOthers(*n) {
			n.Peers = append(n.Peers, peer(id, last+1, 0, 0))
		}
	})
}

func TestAVoteThatMakesMost(t *testing.T) {
	n := stander()
	for _, from := range []int{2, 3} {
		wantReceive(t, n, tellsVote(from, 1, 6, true), leading(n), asksAppend(1, 2, 6, 17, 5, 13, none(6)), asksAppend(1, 3, 6, 17, 5, 13, none(6)))
		wantReceive(t, n, tellsVote(from, 1, 6, false), n)
	}
	wantReceive(t, n, tellsVote(4, 1, 6, true), changedNode(n, func(n *impl.Node) { n.Votes = []int{1, 4} }))
	for _, other := range []impl.Node{follower(), leader()} {
		wantReceive(t, other, tellsVote(2, 1, other.Term, true), other)
	}
}

func TestVotesThatComeTwiceOrUnasked(t *testing.T) {
	n := changedNode(stander(), func(n *impl.Node) { n.Log.Entries[1] = conf(3, "\x01\x02\x04") })
	unasked := changedNode(n, func(n *impl.Node) { n.Votes = []int{1, 3} })
	wantReceive(t, n, tellsVote(3, 1, 6, true), unasked)
	wantReceive(t, unasked, tellsVote(3, 1, 6, true), unasked)
	wantReceive(t, unasked, tellsVote(4, 1, 6, true), leading(unasked), asksAppend(1, 2, 6, 17, 5, 13, none(6)), asksAppend(1, 4, 6, 17, 5, 13, none(6)))
	four := changedNode(stander(), func(n *impl.Node) { n.Log.Entries[1] = conf(3, "\x01\x02\x03\x04") })
	two := changedNode(four, func(n *impl.Node) { n.Votes = []int{1, 3} })
	wantReceive(t, four, tellsVote(3, 1, 6, true), two)
	wantReceive(t, two, tellsVote(3, 1, 6, true), two)
	wantReceive(t, two, tellsVote(2, 1, 6, true), leading(two), asksAppend(1, 2, 6, 17, 5, 13, none(6)), asksAppend(1, 3, 6, 17, 5, 13, none(6)), asksAppend(1, 4, 6, 17, 5, 13, none(6)))
}

func TestVotesOfEachConf(t *testing.T) {
	for text, list := range rightConfs() {
		for id := 1; id <= 4; id++ {
			for _, votes := range append([][]int{{}}, slices.Collect(mapValues(rightConfs()))...) {
				for from := 1; from <= 4; from++ {
					if from == id {
						continue
					}
					n := impl.Node{Id: id, Term: 3, Vote: id, Role: impl.RoleStand, Conf: []int{1, 3}, Log: logOf(5, 1, conf(2, text)), Commit: 5, Limit: 1, Votes: votes}
					then, _ := checkReceive(t, n, tellsVote(from, id, 3, true))
					if leads := halfOf(list, append(slices.Clone(votes), from)); leads != (then.Role == impl.RoleLead) {
						t.Errorf("%d with the Votes %v and %d leads %v: %v", id, votes, from, list, !leads)
					}
				}
			}
		}
	}
}

func mapValues(m map[string][]int) func(func([]int) bool) {
	return func(yield func([]int) bool) {
		for _, list := range m {
			if !yield(list) {
				return
			}
		}
	}
}

// Where there is no room no entry is put: who leads tells of no Entries.
func TestOneThatLeadsWithoutRoom(t *testing.T) {
	logs := map[bool][]impl.Log{
		true:  {logOf(3, 2, unlikeEntries(59, 4)...), logOf(999999, 2), logOf(999990, 2, unlikeEntries(9, 4)...)},
		false: {logOf(3, 2, unlikeEntries(60, 4)...), logOf(1000000, 2), logOf(999990, 2, unlikeEntries(10, 4)...), logOf(999940, 2, unlikeEntries(60, 4)...)},
	}
	for isPut, list := range logs {
		for _, l := range list {
			n := impl.Node{Id: 2, Term: 7, Vote: 2, Role: impl.RoleStand, Conf: []int{1, 2}, Log: l, Commit: l.Start, Limit: 1, Votes: []int{2}}
			want, told := leading(n), asksAppend(2, 1, 7, plainLast(n), 4, l.Start, none(7))
			if len(l.Entries) == 0 {
				told.LogTerm = 2
			}
			if !isPut {
				want.Log, told.Entries = l, nil
			}
			wantReceive(t, n, tellsVote(1, 2, 7, true), want, told)
		}
	}
}

// heeding is what becomes of a node that hears of one who leads.
func heeding(n impl.Node, lead int) impl.Node {
	return changedNode(n, func(n *impl.Node) {
		n.Role, n.Lead, n.Clock, n.Votes, n.Peers = impl.RoleFollow, lead, 0, nil, nil
	})
}

func TestAskAppendWithoutEntries(t *testing.T) {
	terms := []int{2, 2, 3, 3, 5, 5, 5, 5}
	for _, n := range eachRole() {
		for index := range 25 {
			for term := range 7 {
				for _, commit := range []int{0, 9, 10, 12, 13, 14, 15, 16, 17, 18, 1000000} {
					want, reply := heeding(n, 4), tellsAppend(1, 4, n.Term, true, index)
					switch {
					case index < 10:
						reply.Index = 10
					case index > 17:
						reply.Ok, reply.Index = false, 17
					case terms[index-10] != term:
						reply.Ok, reply.Index = false, index-1
					default:
						want.Commit = max(13, min(commit, index))
					}
					wantReceive(t, n, asksAppend(4, 1, n.Term, index, term, commit), want, reply)
				}
			}
		}
		wantReceive(t, n, asksAppend(4, 1, n.Term, 1000000, 5, 17), heeding(n, 4), tellsAppend(1, 4, n.Term, false, 17))
	}
	empty := impl.Node{Id: 1, Term: 3, Conf: []int{1, 2}, Limit: 4}
	wantReceive(t, empty, asksAppend(2, 1, 3, 0, 0, 0), heeding(empty, 2), tellsAppend(1, 2, 3, true, 0))
	wantReceive(t, empty, asksAppend(2, 1, 3, 0, 1, 0), heeding(empty, 2), tellsAppend(1, 2, 3, false, 0))
	wantReceive(t, empty, asksAppend(2, 1, 3, 1, 0, 0), heeding(empty, 2), tellsAppend(1, 2, 3, false, 0))
	wantReceive(t, empty, asksAppend(2, 1, 3, 9, 1, 5), heeding(empty, 2), tellsAppend(1, 2, 3, false, 0))
}

// wantTaken has its log up to an index, and these entries behind it.
func wantTaken(t *testing.T, n impl.Node, m impl.Message, commit, reach, upTo int, behind ...impl.Entry) {
	t.Helper()
	want := heeding(n, m.From)
	want.Commit = commit
	want.Log.Entries = append(want.Log.Entries[:upTo-n.Log.Start], behind...)
	wantReceive(t, n, m, want, tellsAppend(n.Id, m.From, n.Term, true, reach))
}

func wantRefused(t *testing.T, n impl.Node, m impl.Message, index int) {
	t.Helper()
	wantReceive(t, n, m, heeding(n, m.From), tellsAppend(n.Id, m.From, n.Term, false, index))
}

func TestAskAppendOfEntriesThatAreNew(t *testing.T) {
	for _, n := range eachRole() {
		of := func(index, logTerm, commit int, entries ...impl.Entry) impl.Message {
			return asksAppend(2, 1, n.Term, index, logTerm, commit, entries...)
		}
		x, y := command(5, "x"), none(n.Term)
		wantTaken(t, n, of(17, 5, 0, x), 13, 18, 17, x)
		wantTaken(t, n, of(17, 5, 18, x, y), 18, 19, 17, x, y)
		wantTaken(t, n, of(17, 5, 19, x, x, x, y), 19, 21, 17, x, x, x, y)
		wantTaken(t, n, of(17, 5, 1000000, x, x, x, y), 21, 21, 17, x, x, x, y)
		wantTaken(t, n, of(17, 5, 13, conf(5, "\x01"), x), 13, 19, 17, conf(5, "\x01"), x)
		wantTaken(t, n, of(16, 5, 13, x, y), 13, 18, 17, y)
		wantRefused(t, n, of(17, 4, 0, x), 16)
		wantRefused(t, n, of(18, 5, 0, x), 17)
	}
}

// What is there already stays, with what stands behind it; an entry of the same
// term is the same.
func TestAskAppendOfEntriesThatAreThere(t *testing.T) {
	n, e := follower(), coreLog().Entries
	for index := 10; index <= 17; index++ {
		for count := range min(5, 18-index) {
			m := asksAppend(2, 1, 6, index, plainLog(n.Log)[index].Term, 15, e[index-10:index-10+count]...)
			wantTaken(t, n, m, max(13, min(15, index+count)), index+count, 17)
		}
	}
	wantTaken(t, n, asksAppend(2, 1, 6, 13, 3, 0, command(5, "other"), none(5)), 13, 15, 17)
	wantTaken(t, n, asksAppend(2, 1, 6, 11, 2, 0, none(3), none(3)), 13, 13, 17)
}

func TestAskAppendOfEntriesInThePlaceOfOthers(t *testing.T) {
	n, x := follower(), command(6, "x")
	wantTaken(t, n, asksAppend(2, 1, 6, 13, 3, 0, x), 13, 14, 13, x)
	wantTaken(t, n, asksAppend(2, 1, 6, 14, 5, 15, x), 15, 15, 14, x)
	wantTaken(t, n, asksAppend(2, 1, 6, 13, 3, 16, command(5, "b"), x, none(6)), 16, 16, 14, x, none(6))
	wantTaken(t, n, asksAppend(2, 1, 6, 13, 3, 0, command(5, "other"), x), 13, 15, 14, x)
	wantTaken(t, n, asksAppend(2, 1, 6, 16, 5, 0, x, x, x, x), 13, 20, 16, x, x, x, x)
	wantTaken(t, n, asksAppend(2, 1, 6, 12, 3, 0, none(3), none(4), none(5), none(5)), 13, 16, 13, none(4), none(5), none(5))
	wantTaken(t, n, asksAppend(2, 1, 6, 13, 3, 0, none(3), none(5)), 13, 15, 13, none(3), none(5))
}

// Behind the first one that is unlike all is gone, also what would be the same.
func TestAskAppendBehindOneThatIsUnlike(t *testing.T) {
	n := follower()
	n.Log.Entries = []impl.Entry{none(2), none(3), command(3, "a"), command(4, "b"), command(5, "c"), command(5, "d"), command(5, "e")}
	wantTaken(t, n, asksAppend(2, 1, 6, 13, 3, 0, command(5, "b"), command(5, "new")), 13, 15, 13, command(5, "b"), command(5, "new"))
}

func TestAskAppendThatWouldTakeAwayWhatIsCommitted(t *testing.T) {
	for commit := 10; commit <= 17; commit++ {
		for index := 10; index <= 17; index++ {
			n := changedNode(follower(), func(n *impl.Node) { n.Commit = commit })
			m := asksAppend(2, 1, 6, index, plainLog(n.Log)[index].Term, 18, none(6))
			if index < commit {
				wantRefused(t, n, m, 17)
			} else {
				wantTaken(t, n, m, index+1, index+1, index, none(6))
			}
		}
	}
	n := follower()
	wantRefused(t, n, asksAppend(2, 1, 6, 11, 2, 17, none(3), none(4), none(6)), 17)
	wantRefused(t, n, asksAppend(2, 1, 6, 10, 2, 17, none(2), none(2)), 17)
}

func TestAskAppendBelowTheLogsStart(t *testing.T) {
	n, e := follower(), coreLog().Entries
	for below := 1; below <= 10; below++ {
		for count := range 5 {
			m := asksAppend(2, 1, 6, 10-below, 0, 17)
			for at := range count {
				one := command(1, "ahead")
				if at >= below {
					one = e[at-below]
				}
				m.Entries = append(m.Entries, one)
			}
			wantTaken(t, n, m, 13, 10+max(0, count-below), 17)
		}
	}
	short := changedNode(n, func(n *impl.Node) { n.Log.Entries, n.Commit = n.Log.Entries[:1], 10 })
	wantTaken(t, short, asksAppend(2, 1, 6, 8, 2, 12, none(2), none(2), none(2), none(4)), 12, 12, 11, none(4))
	wantTaken(t, short, asksAppend(2, 1, 6, 8, 2, 12, none(2), none(2), none(4), none(4)), 12, 12, 10, none(4), none(4))
	wantTaken(t, short, asksAppend(2, 1, 6, 9, 6, 12), 10, 10, 11)
	wantTaken(t, short, asksAppend(2, 1, 6, 9, 6, 12, none(6), none(6)), 11, 11, 10, none(6))
	// What is passed over may have lesser terms than the log's beginning; what is
	// not makes no right log then.
	wantRefused(t, short, asksAppend(2, 1, 6, 9, 0, 12, none(0), none(1)), 11)
}

func TestAskAppendThatMakesNoRightLog(t *testing.T) {
	full := func(start, count int) impl.Node {
		return impl.Node{Id: 1, Term: 6, Conf: []int{1, 2}, Log: logOf(start, 4, unlikeEntries(count, 4)...), Commit: start, Clock: 2, Limit: 4}
	}
	for count := 55; count <= 60; count++ {
		for more := range 5 {
			n := full(3, count)
			m := asksAppend(2, 1, 6, 3+count, 4, 1000000, unlikeEntries(more, 5)...)
			if count+more > 60 {
				wantRefused(t, n, m, 3+count)
			} else {
				wantTaken(t, n, m, 3+count+more, 3+count+more, 3+count, m.Entries...)
			}
		}
	}
	for room := range 5 {
		n := full(1000000-room-2, 2)
		for more := range 5 {
			m := asksAppend(2, 1, 6, plainLast(n), 4, 0, unlikeEntries(more, 5)...)
			if more > room {
				wantRefused(t, n, m, plainLast(n))
			} else {
				wantTaken(t, n, m, n.Commit, plainLast(n)+more, plainLast(n), m.Entries...)
			}
		}
	}
	n := full(3, 60)
	wantTaken(t, n, asksAppend(2, 1, 6, 62, 4, 0, none(5)), 3, 63, 62, none(5))
	wantRefused(t, n, asksAppend(2, 1, 6, 62, 4, 63, none(5), none(5)), 63)
	wantRefused(t, n, asksAppend(2, 1, 6, 62, 4, 63, none(4), none(5)), 63)
}

func changedPeer(n impl.Node, at int, p impl.Peer) impl.Node {
	return changedNode(n, func(n *impl.Node) { n.Peers[at] = p })
}

func TestTellAppendThatIsOk(t *testing.T) {
	n, e := leader(), coreLog().Entries
	of := func(index int) impl.Message { return tellsAppend(2, 1, 5, true, index) }
	behind := func(match, commit int) impl.Node {
		return changedNode(changedPeer(n, 0, peer(2, match+1, match, 7)), func(n *impl.Node) { n.Commit = commit })
	}
	for index := range 14 {
		wantReceive(t, n, of(index), behind(13, 13), asksAppend(1, 2, 5, 13, 3, 13, e[3:]...))
	}
	wantReceive(t, n, of(14), behind(14, 14), asksAppend(1, 2, 5, 14, 5, 14, e[4:]...))
	wantReceive(t, n, of(15), behind(15, 15), asksAppend(1, 2, 5, 15, 5, 15, e[5:]...))
	wantReceive(t, n, of(16), behind(16, 16), asksAppend(1, 2, 5, 16, 5, 16, e[6:]...))
	for _, index := range []int{17, 18, 19, 1000000} {
		wantReceive(t, n, of(index), behind(17, 17))
	}
	wantReceive(t, n, tellsAppend(4, 1, 5, true, 17), n)
	far := changedPeer(n, 0, peer(2, 15, 0, 7))
	wantReceive(t, far, of(10), changedPeer(far, 0, peer(2, 11, 10, 7)), asksAppend(1, 2, 5, 10, 2, 13, e[:4]...))
	wantReceive(t, far, of(9), changedPeer(far, 0, peer(2, 10, 9, 7)), asksInstall(1, 2, 5, 10, 2, 7, 1, 2))
	wantReceive(t, far, of(0), changedPeer(far, 0, peer(2, 1, 0, 7)), asksInstall(1, 2, 5, 10, 2, 7, 1, 2))
}

func TestTellAppendThatIsNotOk(t *testing.T) {
	n, e := leader(), coreLog().Entries
	of := func(index int) impl.Message { return tellsAppend(2, 1, 5, false, index) }
	for _, index := range []int{14, 15, 16, 17, 18, 1000000} {
		wantReceive(t, n, of(index), n, asksAppend(1, 2, 5, 14, 5, 13, e[4:]...))
	}
	for index := range 14 {
		wantReceive(t, n, of(index), changedPeer(n, 0, peer(2, 14, 13, 7)), asksAppend(1, 2, 5, 13, 3, 13, e[3:]...))
	}
	wantReceive(t, n, tellsAppend(4, 1, 5, false, 3), n)
	far := changedPeer(n, 0, peer(2, 15, 8, 7))
	wantReceive(t, far, of(11), changedPeer(far, 0, peer(2, 12, 8, 7)), asksAppend(1, 2, 5, 11, 2, 13, e[1:5]...))
	wantReceive(t, far, of(10), changedPeer(far, 0, peer(2, 11, 8, 7)), asksAppend(1, 2, 5, 10, 2, 13, e[:4]...))
	wantReceive(t, far, of(9), changedPeer(far, 0, peer(2, 10, 8, 7)), asksInstall(1, 2, 5, 10, 2, 7, 1, 2))
	wantReceive(t, far, of(3), changedPeer(far, 0, peer(2, 9, 8, 7)), asksInstall(1, 2, 5, 10, 2, 7, 1, 2))
	ahead := changedPeer(n, 0, peer(2, 18, 17, 7))
	wantReceive(t, ahead, of(0), ahead, asksAppend(1, 2, 5, 17, 5, 13))
}

// What most of the conf have counts with the entries of the Term alone.
func TestCommitGoesOn(t *testing.T) {
	elder := changedNode(leader(), func(n *impl.Node) { n.Term = 6 })
	wantReceive(t, elder, tellsAppend(2, 1, 6, true, 17), changedPeer(elder, 0, peer(2, 18, 17, 7)))
	own := changedNode(elder, func(n *impl.Node) { n.Log.Entries[6] = none(6) })
	wantReceive(t, own, tellsAppend(2, 1, 6, true, 16), changedPeer(own, 0, peer(2, 17, 16, 7)), asksAppend(1, 2, 6, 16, 5, 13, none(6)))
	wantReceive(t, own, tellsAppend(2, 1, 6, true, 17), changedNode(changedPeer(own, 0, peer(2, 18, 17, 7)), func(n *impl.Node) { n.Commit = 17 }))
	four := changedNode(leader(), func(n *impl.Node) {
		n.Log.Entries[1] = conf(3, "\x01\x02\x03\x04")
		n.Peers = []impl.Peer{peer(2, 18, 12, 0), peer(3, 18, 15, 0), peer(4, 18, 16, 0)}
	})
	wantReceive(t, four, tellsAppend(2, 1, 5, true, 17), changedNode(changedPeer(four, 0, peer(2, 18, 17, 0)), func(n *impl.Node) { n.Commit = 16 }))
	four.Peers[1].Match = 13
	wantReceive(t, four, tellsAppend(4, 1, 5, true, 17), changedPeer(four, 2, peer(4, 18, 17, 0)))
	four.Peers[1].Match = 14
	wantReceive(t, four, tellsAppend(4, 1, 5, true, 17), changedNode(changedPeer(four, 2, peer(4, 18, 17, 0)), func(n *impl.Node) { n.Commit = 14 }))
}

// The node itself does not count where the conf is without it; and leads till
// that is committed.
func TestALeaderThatIsNoLongerInTheConf(t *testing.T) {
	n := changedNode(leader(), func(n *impl.Node) {
		n.Log.Entries[6] = conf(5, "\x02\x03")
		n.Peers = []impl.Peer{peer(2, 18, 12, 0), peer(3, 18, 16, 0)}
	})
	leads := changedNode(changedPeer(n, 0, peer(2, 18, 17, 0)), func(n *impl.Node) { n.Commit = 16 })
	wantReceive(t, n, tellsAppend(2, 1, 5, true, 17), leads)
	ended := func(n impl.Node) impl.Node {
		return changedNode(n, func(n *impl.Node) { n.Role, n.Lead, n.Peers, n.Commit = impl.RoleFollow, 0, nil, 17 })
	}
	wantReceive(t, leads, tellsAppend(3, 1, 5, true, 17), ended(leads))
	wantReceive(t, leads, tellsInstall(3, 1, 5, true, 17, 0), ended(leads))
	wantTick(t, leads, 9, leads, asksAppend(1, 2, 5, 17, 5, 16), asksAppend(1, 3, 5, 17, 5, 16))
	stands := changedNode(stander(), func(n *impl.Node) { n.Log.Entries[6], n.Commit = conf(5, "\x02\x03"), 17 })
	stands.Votes = []int{1, 2}
	down := changedNode(stands, func(n *impl.Node) {
		n.Role, n.Votes = impl.RoleFollow, nil
		n.Log.Entries = append(n.Log.Entries, none(6))
	})
	wantReceive(t, stands, tellsVote(3, 1, 6, true), down)
}

func TestAskInstallAtTheCore(t *testing.T) {
	for _, n := range eachRole() {
		for _, m := range []impl.Message{asksInstall(4, 1, n.Term, 0, 0, 0, 1), asksInstall(4, 1, n.Term, 17, 5, 0, 1, 2), asksInstall(4, 1, n.Term, 1000000, 100000, 1000000, 3, 4)} {
			wantReceive(t, n, m, heeding(n, 4))
			m.Data, m.Last, m.Ok = mixedBytes(60), true, true
			wantReceive(t, n, m, heeding(n, 4))
		}
	}
}

func TestTellInstallThatIsOk(t *testing.T) {
	n, e := leader(), coreLog().Entries
	of := func(index, commit int) impl.Message { return tellsInstall(2, 1, 5, true, index, commit) }
	for _, commit := range []int{0, 5, 1000000} {
		wantReceive(t, n, of(10, commit), changedPeer(n, 0, peer(2, 14, 13, 0)), asksAppend(1, 2, 5, 13, 3, 13, e[3:]...))
		wantReceive(t, n, of(15, commit), changedNode(changedPeer(n, 0, peer(2, 16, 15, 0)), func(n *impl.Node) { n.Commit = 15 }), asksAppend(1, 2, 5, 15, 5, 15, e[5:]...))
		wantReceive(t, n, of(17, commit), changedNode(changedPeer(n, 0, peer(2, 18, 17, 0)), func(n *impl.Node) { n.Commit = 17 }))
		wantReceive(t, n, of(40, commit), changedNode(changedPeer(n, 0, peer(2, 18, 17, 0)), func(n *impl.Node) { n.Commit = 17 }))
	}
	far := changedPeer(n, 0, peer(2, 3, 0, 7))
	wantReceive(t, far, of(10, 3), changedPeer(far, 0, peer(2, 11, 10, 0)), asksAppend(1, 2, 5, 10, 2, 13, e[:4]...))
	begun := changedPeer(n, 0, peer(2, 3, 0, 0))
	wantReceive(t, begun, of(9, 3), changedPeer(begun, 0, peer(2, 10, 9, 0)), asksInstall(1, 2, 5, 10, 2, 0, 1, 2))
	wantReceive(t, n, tellsInstall(4, 1, 5, true, 10, 0), n)
}

func TestTellInstallThatIsNotOk(t *testing.T) {
	far, e := changedPeer(leader(), 0, peer(2, 4, 2, 7)), coreLog().Entries
	// No text has more than 20000 bytes; Sent is what is told all the same.
	for _, commit := range []int{0, 1, 60, 120, 19999, 20000, 20001, 65536, 1000000} {
		for _, index := range []int{0, 1, 9, 10, 11, 17, 1000000} {
			sent := 0
			if index == 10 {
				sent = commit
			}
			wantReceive(t, far, tellsInstall(2, 1, 5, false, index, commit), changedPeer(far, 0, peer(2, 4, 2, sent)), asksInstall(1, 2, 5, 10, 2, sent, 1, 2))
			wantReceive(t, leader(), tellsInstall(2, 1, 5, false, index, commit), changedPeer(leader(), 0, peer(2, 15, 13, sent)), asksAppend(1, 2, 5, 14, 5, 13, e[4:]...))
			wantReceive(t, far, tellsInstall(4, 1, 5, false, index, commit), far)
		}
	}
}

func TestRepliesOfPeersToThoseWhoDoNotLead(t *testing.T) {
	for _, n := range []impl.Node{follower(), stander()} {
		for _, ok := range []bool{true, false} {
			for index := range 20 {
				wantReceive(t, n, tellsAppend(2, 1, 6, ok, index), n)
				wantReceive(t, n, tellsInstall(2, 1, 6, ok, index, 3), n)
			}
		}
	}
}

func wrongNodes() []impl.Node {
	list := []impl.Node{{}, changedNode(follower(), func(n *impl.Node) { n.Votes = []int{1} }), changedNode(stander(), func(n *impl.Node) { n.Peers = leader().Peers }), changedNode(leader(), func(n *impl.Node) { n.Peers = n.Peers[:1] })}
	for _, n := range eachRole() {
		for _, change := range []func(*impl.Node){
			func(n *impl.Node) { n.Id = 5 }, func(n *impl.Node) { n.Id = 0 }, func(n *impl.Node) { n.Term = 4 }, func(n *impl.Node) { n.Term = 100001 },
			func(n *impl.Node) { n.Vote = 5 }, func(n *impl.Node) { n.Lead = -1 }, func(n *impl.Node) { n.Role = 3 }, func(n *impl.Node) { n.Conf = []int{2, 1} },
			func(n *impl.Node) { n.Conf = nil }, func(n *impl.Node) { n.Log.StartTerm = 3 }, func(n *impl.Node) { n.Log.Entries[3] = impl.Entry{} },
			func(n *impl.Node) { n.Commit = 9 }, func(n *impl.Node) { n.Commit = 18 }, func(n *impl.Node) { n.Clock = 21 }, func(n *impl.Node) { n.Clock = -1 },
			func(n *impl.Node) { n.Limit = 0 }, func(n *impl.Node) { n.Limit = 21 }, func(n *impl.Node) { n.Votes = []int{2, 1} },
			func(n *impl.Node) { n.Peers = []impl.Peer{peer(2, 19, 0, 0), peer(3, 1, 0, 0)} }, func(n *impl.Node) { n.Votes = make([]int, 100000) },
			func(n *impl.Node) { n.Peers = make([]impl.Peer, 100000) }, func(n *impl.Node) { n.Log.Entries = make([]impl.Entry, 100000) },
			func(n *impl.Node) { n.Log.Start = math.MaxInt - 3 }, func(n *impl.Node) { n.Log.Start = math.MinInt }, func(n *impl.Node) { n.Commit = math.MinInt },
		} {
			list = append(list, changedNode(n, change))
		}
	}
	return list
}

func TestWrongNodesAreRefused(t *testing.T) {
	for _, n := range wrongNodes() {
		wantNodeOk(t, n, false)
		wantNoTick(t, n, 5)
		for _, kind := range eachKind() {
			m := bareOf(kind)
			m.From, m.To = 2, 1
			wantNoReceive(t, n, m)
		}
		wantNoPropose(t, n, impl.EntryNone, "")
		wantNoPropose(t, n, impl.EntryCommand, "x")
		wantNoPropose(t, n, impl.EntryConf, "\x01\x02\x03\x04")
		for _, index := range []int{n.Log.Start, n.Commit, 10, 13, 0} {
			wantNoSettle(t, n, index)
		}
	}
}

func TestWrongMessagesAreRefused(t *testing.T) {
	for _, n := range eachRole() {
		for _, kind := range eachKind() {
			right := bareOf(kind)
			right.From, right.To = 2, 1
			if _, _, ok := impl.Receive(n, right); !ok {
				t.Errorf("%s is refused", toldMessage(right))
			}
			for _, change := range []func(*impl.Message){
				func(m *impl.Message) { m.Kind = 0 }, func(m *impl.Message) { m.Kind = 7 }, func(m *impl.Message) { m.From = 1 }, func(m *impl.Message) { m.From = 0 },
				func(m *impl.Message) { m.From = 5 }, func(m *impl.Message) { m.To = 2 }, func(m *impl.Message) { m.To = 3 }, func(m *impl.Message) { m.To = 4 },
				func(m *impl.Message) { m.To = 0 }, func(m *impl.Message) { m.Term = -1 }, func(m *impl.Message) { m.Term = 100001 }, func(m *impl.Message) { m.Index = -1 },
				func(m *impl.Message) { m.Index = 1000001 }, func(m *impl.Message) { m.LogTerm = -1 }, func(m *impl.Message) { m.LogTerm = 100001 },
				func(m *impl.Message) { m.Commit = -1 }, func(m *impl.Message) { m.Commit = 1000001 }, func(m *impl.Message) { m.Entries = noneOf(4, 4, 4, 4, 4) },
				func(m *impl.Message) { m.Entries = noneOf(3) }, func(m *impl.Message) { m.Entries = noneOf(10) }, func(m *impl.Message) { m.Conf = []int{5} },
				func(m *impl.Message) { m.Data = mixedBytes(61) },
			} {
				m := changedMessage(right, change)
				wantNoReceive(t, n, m)
			}
		}
	}
	other := changedNode(follower(), func(n *impl.Node) { n.Id = 3 })
	wantNoReceive(t, other, asksVote(2, 1, 6, 17, 5))
	wantNoReceive(t, other, asksVote(3, 1, 6, 17, 5))
}

func TestProposeOfEachKind(t *testing.T) {
	n, e := leader(), coreLog().Entries
	put := func(one impl.Entry) impl.Node {
		return changedNode(n, func(n *impl.Node) { n.Log.Entries = append(n.Log.Entries, one) })
	}
	for _, one := range []impl.Entry{none(5), command(5, ""), command(5, "x"), command(5, mixedBytes(120)), command(5, "\x01\x02")} {
		wantPropose(t, n, one, 18, put(one), asksAppend(1, 2, 5, 14, 5, 13, e[4], e[5], e[6], one), asksAppend(1, 3, 5, 15, 5, 13, e[5], e[6], one))
	}
	for _, one := range wrongEntries() {
		if one.Term == 3 {
			wantNoPropose(t, n, one.Kind, one.Data)
		}
	}
	for _, kind := range slices.Concat(oddInts(), []int{-3, -2, 257, 1<<32 + 1, 1<<32 + 3}) {
		if !within(kind, 1, 3) {
			wantNoPropose(t, n, kind, "")
			wantNoPropose(t, n, kind, "\x01\x02")
		}
	}
	for _, other := range []impl.Node{follower(), stander()} {
		wantNoPropose(t, other, impl.EntryNone, "")
		wantNoPropose(t, other, impl.EntryCommand, "x")
		wantNoPropose(t, other, impl.EntryConf, "\x01\x02")
	}
}

// What is there but not told to a peer yet comes first, and as much of it as
// one message may have.
func TestProposeToPeersThatAreBehind(t *testing.T) {
	n, e, x := leader(), coreLog().Entries, command(5, "x")
	n.Peers = []impl.Peer{peer(2, 11, 0, 0), peer(3, 10, 0, 4)}
	want := changedNode(n, func(n *impl.Node) { n.Log.Entries = append(n.Log.Entries, x) })
	wantPropose(t, n, x, 18, want, asksAppend(1, 2, 5, 10, 2, 13, e[:4]...), asksInstall(1, 3, 5, 10, 2, 4, 1, 2))
}

func leadsAlone(start, count int) impl.Node {
	return impl.Node{Id: 2, Term: 4, Vote: 2, Role: impl.RoleLead, Lead: 2, Conf: []int{2}, Log: logOf(start, 4, unlikeEntries(count, 4)...), Commit: start, Limit: 5}
}

func TestProposeOfANodeAlone(t *testing.T) {
	for _, start := range []int{0, 7, 999000} {
		for count := range 61 {
			n, x := leadsAlone(start, count), command(4, "x")
			if count == 60 {
				wantNoPropose(t, n, x.Kind, x.Data)
				continue
			}
			want := changedNode(n, func(n *impl.Node) { n.Log.Entries, n.Commit = append(n.Log.Entries, x), start+count+1 })
			wantPropose(t, n, x, start+count+1, want)
		}
	}
	for room := range 4 {
		n := leadsAlone(1000000-2-room, 2)
		if room == 0 {
			wantNoPropose(t, n, impl.EntryNone, "")
			continue
		}
		want := changedNode(n, func(n *impl.Node) { n.Log.Entries = append(n.Log.Entries, none(4)) })
		want.Commit = plainLast(want)
		wantPropose(t, n, none(4), want.Commit, want)
	}
}

func TestProposeOfAConf(t *testing.T) {
	n, e := changedNode(leader(), func(n *impl.Node) { n.Commit = 14 }), coreLog().Entries
	put := func(text string, change func(*impl.Node)) impl.Node {
		return changedNode(n, func(n *impl.Node) {
			n.Log.Entries = append(n.Log.Entries, conf(5, text))
			change(n)
		})
	}
	all := conf(5, "\x01\x02\x03\x04")
	want := put(all.Data, func(n *impl.Node) { n.Peers = append(n.Peers, peer(4, 18, 0, 0)) })
	wantPropose(t, n, all, 18, want, asksAppend(1, 2, 5, 14, 5, 14, e[4], e[5], e[6], all), asksAppend(1, 3, 5, 15, 5, 14, e[5], e[6], all), asksAppend(1, 4, 5, 17, 5, 14, all))
	wantPropose(t, n, conf(5, "\x01\x02"), 18, put("\x01\x02", func(n *impl.Node) { n.Peers = n.Peers[:1] }), asksAppend(1, 2, 5, 14, 5, 14, e[4], e[5], e[6], conf(5, "\x01\x02")))
	wantPropose(t, n, conf(5, "\x01\x03"), 18, put("\x01\x03", func(n *impl.Node) { n.Peers = n.Peers[1:] }), asksAppend(1, 3, 5, 15, 5, 14, e[5], e[6], conf(5, "\x01\x03")))
	wantPropose(t, n, conf(5, "\x02\x03"), 18, put("\x02\x03", func(n *impl.Node) {}), asksAppend(1, 2, 5, 14, 5, 14, e[4], e[5], e[6], conf(5, "\x02\x03")), asksAppend(1, 3, 5, 15, 5, 14, e[5], e[6], conf(5, "\x02\x03")))
	for text := range rightConfs() {
		isOne := text == "\x01\x02" || text == "\x01\x03" || text == "\x02\x03" || text == all.Data
		if _, _, ok := checkPropose(t, n, impl.EntryConf, text); ok != isOne {
			t.Errorf("the conf %q is told wrong", text)
		}
		wantNoPropose(t, leader(), impl.EntryConf, text)
	}
	for _, text := range wrongConfTexts() {
		wantNoPropose(t, n, impl.EntryConf, text)
	}
}

// One that is new comes in the order of Ids, behind what was there.
func TestProposeOfAConfWithOneMoreBetween(t *testing.T) {
	n := impl.Node{Id: 4, Term: 3, Vote: 4, Role: impl.RoleLead, Lead: 4, Conf: []int{1, 3, 4}, Log: logOf(6, 1, none(3)), Commit: 7, Limit: 5}
	n.Peers = []impl.Peer{peer(1, 8, 7, 1), peer(3, 5, 4, 2)}
	want := changedNode(n, func(n *impl.Node) {
		n.Log.Entries = append(n.Log.Entries, conf(3, "\x01\x02\x03\x04"))
		n.Peers = []impl.Peer{peer(1, 8, 7, 1), peer(2, 8, 0, 0), peer(3, 5, 4, 2)}
	})
	one := conf(3, "\x01\x02\x03\x04")
	wantPropose(t, n, one, 8, want, asksAppend(4, 1, 3, 7, 3, 7, one), asksAppend(4, 2, 3, 7, 3, 7, one), asksInstall(4, 3, 3, 6, 1, 2, 1, 3, 4))
}

// Of one node alone the conf with one more is not committed at once; of two the
// one with one less is.
func TestProposeOfAConfFromAndToANodeAlone(t *testing.T) {
	n := changedNode(leadsAlone(6, 1), func(n *impl.Node) { n.Commit = 7 })
	want := changedNode(n, func(n *impl.Node) {
		n.Log.Entries, n.Peers = append(n.Log.Entries, conf(4, "\x02\x03")), []impl.Peer{peer(3, 8, 0, 0)}
	})
	wantPropose(t, n, conf(4, "\x02\x03"), 8, want, asksAppend(2, 3, 4, 7, 4, 7, conf(4, "\x02\x03")))
	for _, text := range []string{"\x02", "\x01", "\x03", "", "\x01\x03", "\x01\x02\x03", "\x03\x02"} {
		wantNoPropose(t, n, impl.EntryConf, text)
	}
	two := changedNode(n, func(n *impl.Node) { n.Conf, n.Peers = []int{2, 4}, []impl.Peer{peer(4, 3, 1, 9)} })
	want = changedNode(two, func(n *impl.Node) {
		n.Log.Entries, n.Peers, n.Commit = append(n.Log.Entries, conf(4, "\x02")), nil, 8
	})
	wantPropose(t, two, conf(4, "\x02"), 8, want)
	want = changedNode(two, func(n *impl.Node) { n.Log.Entries = append(n.Log.Entries, conf(4, "\x04")) })
	wantPropose(t, two, conf(4, "\x04"), 8, want, asksInstall(2, 4, 4, 6, 4, 9, 2, 4))
}

func TestProposeOfAConfWhileAnotherIsNotCommitted(t *testing.T) {
	for commit := 14; commit <= 17; commit++ {
		for at := 11; at <= 17; at++ {
			n := changedNode(leader(), func(n *impl.Node) {
				n.Commit, n.Log.Entries[1] = commit, none(3)
				n.Log.Entries[at-11] = conf(n.Log.Entries[at-11].Term, "\x01\x02\x03")
			})
			if _, _, ok := checkPropose(t, n, impl.EntryConf, "\x01\x02"); ok != (at <= commit) {
				t.Errorf("a conf behind one at %d with the Commit %d is told wrong", at, commit)
			}
			checkPropose(t, n, impl.EntryCommand, "x")
		}
	}
}

func TestProposeOfAConfAheadOfTheFirstCommitOfTheTerm(t *testing.T) {
	for commit := 12; commit <= 17; commit++ {
		n := changedNode(leader(), func(n *impl.Node) { n.Commit = commit })
		if _, _, ok := checkPropose(t, n, impl.EntryConf, "\x01\x02"); ok != (commit >= 14) {
			t.Errorf("a conf with the Commit %d is told wrong", commit)
		}
		n.Term = 6
		wantNoPropose(t, n, impl.EntryConf, "\x01\x02")
		checkPropose(t, n, impl.EntryCommand, "x")
	}
	settled := impl.Node{Id: 1, Term: 3, Role: impl.RoleLead, Conf: []int{1, 2}, Log: logOf(6, 3), Commit: 6, Limit: 5, Peers: []impl.Peer{peer(2, 7, 0, 0)}}
	if _, _, ok := checkPropose(t, settled, impl.EntryConf, "\x01\x02\x04"); !ok {
		t.Errorf("a conf behind the log's beginning is refused")
	}
}

// Every conf behind every other one, proposed by each node.
func TestProposeOfEachConfBehindEachOther(t *testing.T) {
	right := 0
	for _, list := range rightConfs() {
		for text := range rightConfs() {
			for id := 1; id <= 4; id++ {
				n := impl.Node{Id: id, Term: 3, Role: impl.RoleLead, Conf: []int{1, 2, 3, 4}, Log: logOf(6, 3, conf(3, bytesOf(list)), none(3)), Commit: 7, Limit: 5}
				for _, other := range plainOthers(n) {
					n.Peers = append(n.Peers, peer(other, 7, 6, 0))
				}
				if _, _, ok := checkPropose(t, n, impl.EntryConf, text); ok {
					right++
				}
			}
		}
	}
	if right != 4*2*28 {
		t.Errorf("%d of them are right", right)
	}
}

func TestSettle(t *testing.T) {
	for _, n := range eachRole() {
		n.Log.Entries[4] = conf(5, "\x01\x02\x03")
		for commit := 10; commit <= 17; commit++ {
			n.Commit = commit
			for index := -2; index <= 30; index++ {
				if !within(index, 10, commit) {
					wantNoSettle(t, n, index)
					continue
				}
				checkSettle(t, n, index)
			}
			for _, index := range farIndexes() {
				wantNoSettle(t, n, index)
			}
		}
	}
	n := follower()
	wantSettle(t, n, 10, n)
	wantSettle(t, n, 11, changedNode(n, func(n *impl.Node) { n.Log = logOf(11, 2, coreLog().Entries[1:]...) }))
	wantSettle(t, n, 12, changedNode(n, func(n *impl.Node) { n.Log, n.Conf = logOf(12, 3, coreLog().Entries[2:]...), []int{1, 2, 3} }))
	wantSettle(t, n, 13, changedNode(n, func(n *impl.Node) { n.Log, n.Conf = logOf(13, 3, coreLog().Entries[3:]...), []int{1, 2, 3} }))
	n.Commit = 17
	wantSettle(t, n, 17, changedNode(n, func(n *impl.Node) { n.Log, n.Conf = logOf(17, 5), []int{1, 2, 3} }))
}

// The conf that held at an index, not the last one, is that of the beginning.
func TestSettleBetweenTwoConfs(t *testing.T) {
	n := impl.Node{Id: 1, Term: 3, Conf: []int{1}, Log: logOf(0, 0, conf(1, "\x01\x02"), conf(2, "\x02"), command(3, "x"), conf(3, "\x02\x03")), Commit: 4, Limit: 5}
	for index, want := range [][]int{{1}, {1, 2}, {2}, {2}, {2, 3}} {
		got, ok := impl.Settle(n, index)
		if !ok || !slices.Equal(got.Conf, want) || got.Log.Start != index {
			t.Errorf("Settle at %d is %s, %v", index, toldNode(got), ok)
		}
		wantConfOf(t, got, 2, 3)
		for at := index; at <= 5; at++ {
			wantConfAt(t, got, at, impl.ConfAt(n, at)...)
		}
	}
}

// drawnLog has terms that rise now and then, and confs among its entries.
func drawnLog(draw func(int) int) impl.Log {
	l := logOf([]int{0, 0, 1, 5, 30, 999995, 1000000 - 61}[draw(7)], draw(3))
	count := draw(9)
	if draw(12) == 0 {
		count = 58 + draw(3)
	}
	term := l.StartTerm
	for range min(count, 1000000-l.Start) {
		term += max(0, draw(5)-3)
		e := drawnRightEntry(draw, term)
		e.Data = e.Data[:min(len(e.Data), 4)]
		l.Entries = append(l.Entries, e)
	}
	return l
}

func drawnConf(draw func(int) int) []int {
	return [][]int{{1}, {2}, {1, 2}, {1, 3}, {2, 4}, {1, 2, 3}, {2, 3, 4}, {1, 2, 3, 4}}[draw(8)]
}

// drawnNode is right, of any Role.
func drawnNode(draw func(int) int) impl.Node {
	n := impl.Node{Id: 1 + draw(4), Vote: draw(5), Role: draw(3), Lead: draw(5), Conf: drawnConf(draw), Log: drawnLog(draw), Clock: draw(21), Limit: 1 + draw(20)}
	_, lastTerm := impl.LogLast(n.Log)
	n.Term = lastTerm + draw(3)
	if draw(40) == 0 {
		n.Term = 100000 - draw(2)
	}
	n.Commit = n.Log.Start + draw(len(n.Log.Entries)+1)
	if n.Role == impl.RoleStand {
		n.Votes = [][]int{nil, {n.Id}, {1}, {1, 2}, {3}, {2, 3, 4}, {1, 2, 3, 4}}[draw(7)]
	}
	if n.Role == impl.RoleLead {
		for _, id := range plainOthers(n) {
			n.Peers = append(n.Peers, drawnPeer(draw, n, id))
		}
	}
	return n
}

func drawnPeer(draw func(int) int, n impl.Node, id int) impl.Peer {
	last := plainLast(n)
	p := peer(id, max(1, last+1-draw(len(n.Log.Entries)+4)), 0, []int{0, 0, 1, 60, 19999, 20000}[draw(6)])
	p.Match = max(0, p.Next-1-draw(4)*draw(3))
	return p
}

// drawnMessageTo is right, and mostly of what the node knows.
func drawnMessageTo(draw func(int) int, n impl.Node) impl.Message {
	m := impl.Message{Kind: 1 + draw(6), To: n.Id, Ok: draw(3) > 0}
	m.From = 1 + (n.Id+draw(3))%4
	m.Term = min(max(n.Term+[]int{-1, 0, 0, 0, 0, 0, 1, 2}[draw(8)], 0), 100000)
	m.Index = min(max(plainLast(n)+3-draw(len(n.Log.Entries)+8), 0), 1000000)
	m.LogTerm = max(0, impl.LogTerm(n.Log, m.Index))
	if draw(5) == 0 {
		m.LogTerm = draw(m.Term + 2)
	}
	m.Commit = min(max(n.Commit+draw(7)-3, 0), 1000000)
	switch m.Kind {
	case impl.AskAppend:
		m.Entries = drawnEntriesFor(draw, n, m)
	case impl.AskInstall:
		m.Conf, m.Data, m.Last = drawnConf(draw), drawnBytes(draw, draw(61)), draw(2) == 0
	case impl.TellInstall:
		m.Commit = []int{0, 1, 60, m.Commit, 20000, 20001, 1000000}[draw(7)]
	}
	return m
}

// drawnEntriesFor are those of the node up to a place, and others from there.
func drawnEntriesFor(draw func(int) int, n impl.Node, m impl.Message) []impl.Entry {
	list, term, log := []impl.Entry{}, m.LogTerm, plainLog(n.Log)
	from := draw(6)
	for at := range draw(5) {
		e, there := log[m.Index+1+at]
		if !there || at >= from || e.Term < term {
			e = drawnRightEntry(draw, term+max(0, draw(5)-3))
		}
		if e.Term > m.Term || !impl.EntryOk(e) {
			break
		}
		term = e.Term
		list = append(list, e)
	}
	return list
}

func TestDrawnTicksAndMessages(t *testing.T) {
	draw, roles := drawsFrom(180), [6]int{}
	for range 25000 {
		n := drawnNode(draw)
		if !plainNodeOk(n) || !impl.NodeOk(n) {
			t.Fatalf("%s is drawn", toldNode(n))
		}
		m := drawnMessageTo(draw, n)
		if !plainMessageOk(m) {
			t.Fatalf("%s is drawn", toldMessage(m))
		}
		then, _ := checkReceive(t, n, m)
		roles[then.Role]++
		ticked, _ := checkTick(t, n, 1+draw(20))
		roles[3+ticked.Role]++
		checkSettle(t, n, n.Log.Start+draw(n.Commit-n.Log.Start+1))
		if t.Failed() {
			return
		}
	}
	for role, count := range roles {
		if count < 1500 {
			t.Errorf("%d alone became %d", count, role)
		}
	}
}

func TestDrawnProposals(t *testing.T) {
	draw, right := drawsFrom(181), [4]int{}
	for range 40000 {
		n := drawnNode(draw)
		kind, data := 1+draw(3), ""
		switch kind {
		case impl.EntryConf:
			data = bytesOf(drawnConf(draw))
			if draw(2) == 0 {
				n.Commit = plainLast(n)
			}
		case impl.EntryCommand:
			data = drawnBytes(draw, []int{0, 1, 5, 119, 120, 121}[draw(6)])
		}
		if _, _, ok := checkPropose(t, n, kind, data); ok {
			right[kind]++
		}
		if t.Failed() {
			return
		}
	}
	if right[1] < 1000 || right[2] < 200 || right[3] < 1000 {
		t.Errorf("%v of them are right", right)
	}
}

// One node hears for long whatever right messages come.
func TestDrawnLivesOfOneNode(t *testing.T) {
	draw, grown := drawsFrom(182), 0
	for life := range 300 {
		n, _ := impl.NodeNew(1+life%4, drawnConf(draw))
		for range 200 {
			first := n
			switch draw(10) {
			case 0, 1:
				n, _ = checkTick(t, n, 1+draw(5))
			case 2:
				n, _, _ = checkPropose(t, n, impl.EntryCommand, drawnBytes(draw, 2))
			case 3:
				n, _, _ = checkPropose(t, n, impl.EntryConf, bytesOf(drawnConf(draw)))
			case 4:
				if draw(3) == 0 {
					n = checkSettle(t, n, n.Log.Start+draw(n.Commit-n.Log.Start+1))
				}
			default:
				m := drawnMessageTo(draw, n)
				if then, _ := checkReceive(t, n, m); !isToldByNone(m) {
					n = then
				}
			}
			if t.Failed() {
				t.Fatalf("behind %s", toldNode(first))
			}
		}
		grown += n.Commit
	}
	if grown < 800 {
		t.Errorf("%d entries alone were committed", grown)
	}
}

// A hall is some nodes and what is on its way between them.
type hall struct {
	t       *testing.T
	nodes   []impl.Node
	net     []impl.Message
	leaders map[int]int
	agreed  map[int]impl.Entry
}

func hallOf(t *testing.T, count int, conf []int) *hall {
	h := &hall{t: t, leaders: map[int]int{}, agreed: map[int]impl.Entry{}}
	for id := 1; id <= count; id++ {
		n, _ := impl.NodeNew(id, conf)
		n.Limit = 2 + 3*id
		h.nodes = append(h.nodes, n)
	}
	return h
}

func (h *hall) become(n impl.Node, told []impl.Message) {
	h.nodes[n.Id-1] = n
	h.net = append(h.net, told...)
	if n.Role == impl.RoleLead {
		if other, there := h.leaders[n.Term]; there && other != n.Id {
			h.t.Errorf("%d and %d lead in the Term %d", other, n.Id, n.Term)
		}
		h.leaders[n.Term] = n.Id
	}
	for index := n.Log.Start + 1; index <= n.Commit; index++ {
		e := plainLog(n.Log)[index]
		if was, there := h.agreed[index]; there && was != e {
			h.t.Errorf("%v and %v are agreed on at %d", was, e, index)
		}
		h.agreed[index] = e
	}
}

func (h *hall) tick(id, limit int) { h.become(checkTick(h.t, h.nodes[id-1], limit)) }

func (h *hall) deliver(at int) {
	m := h.net[at]
	h.net = slices.Delete(h.net, at, at+1)
	h.become(checkReceive(h.t, h.nodes[m.To-1], m))
}

func (h *hall) propose(id, kind int, data string) {
	n, told, _ := checkPropose(h.t, h.nodes[id-1], kind, data)
	h.become(n, told)
}

// calm ticks all nodes, and delivers all that is told, in order.
func (h *hall) calm(rounds int) {
	for range rounds {
		for id := range len(h.nodes) {
			h.tick(id+1, 5+4*id)
		}
		for range 60 {
			if len(h.net) > 0 {
				h.deliver(0)
			}
		}
	}
}

func TestACalmHallAgrees(t *testing.T) {
	for count := 1; count <= 4; count++ {
		h := hallOf(t, count, []int{1, 2, 3, 4}[:count])
		h.calm(12)
		leads := slices.IndexFunc(h.nodes, func(n impl.Node) bool { return n.Role == impl.RoleLead }) + 1
		if leads == 0 {
			t.Fatalf("none of %d leads", count)
		}
		for _, data := range []string{"a", "b", "c", "d", "e", "f", "g"} {
			h.propose(leads, impl.EntryCommand, data)
		}
		h.calm(12)
		for _, n := range h.nodes {
			if n.Commit < 8 || n.Commit != h.nodes[0].Commit || n.Lead != leads || !sameLog(n.Log, h.nodes[0].Log) {
				t.Errorf("%d of %d has %s", n.Id, count, toldNode(n))
			}
		}
	}
}

// A conf goes from one node to four and back to one other, one by one.
func TestAHallWhoseConfChanges(t *testing.T) {
	h := hallOf(t, 4, []int{1})
	h.calm(9)
	for _, text := range []string{"\x01\x02", "\x01\x02\x03", "\x01\x02\x03\x04", "\x01\x02\x04", "\x02\x04"} {
		leads := slices.IndexFunc(h.nodes, func(n impl.Node) bool { return n.Role == impl.RoleLead }) + 1
		last := plainLast(h.nodes[leads-1])
		h.propose(leads, impl.EntryConf, text)
		h.calm(10)
		if h.agreed[last+1].Data != text {
			t.Errorf("the conf %q is not agreed on", text)
		}
	}
	if h.nodes[0].Role != impl.RoleFollow {
		t.Errorf("the node 1 leads still: %s", toldNode(h.nodes[0]))
	}
	h.calm(30)
	leads := slices.IndexFunc(h.nodes, func(n impl.Node) bool { return n.Role == impl.RoleLead }) + 1
	if leads != 2 && leads != 4 {
		t.Errorf("the node %d leads", leads)
	}
}

// Whatever is lost, told twice and turned: no Term has two who lead, and no
// index two entries that are agreed on.
func TestDrawnHalls(t *testing.T) {
	draw, agreed, terms := drawsFrom(183), 0, 0
	for range 150 {
		count := 2 + draw(3)
		h := hallOf(t, count, []int{1, 2, 3, 4}[:1+draw(count)])
		for range 300 {
			at := draw(max(1, len(h.net)))
			switch act := draw(20); {
			case act < 4:
				h.tick(1+draw(count), 1+draw(8))
			case act < 6:
				h.propose(1+draw(count), impl.EntryCommand, drawnBytes(draw, 2))
			case act == 6:
				conf := drawnConf(draw)
				if conf[len(conf)-1] <= count {
					h.propose(1+draw(count), impl.EntryConf, bytesOf(conf))
				}
			case len(h.net) == 0:
				h.tick(1+draw(count), 1+draw(8))
			case act == 7:
				h.net = slices.Delete(h.net, at, at+1)
			case act == 8:
				h.net = append(h.net, h.net[at])
			default:
				h.deliver(at)
			}
			if t.Failed() {
				return
			}
		}
		agreed, terms = agreed+len(h.agreed), terms+len(h.leaders)
	}
	if agreed < 1000 || terms < 200 {
		t.Errorf("%d entries in %d Terms alone were agreed on", agreed, terms)
	}
}

// span is where memory lies.
type span struct{ from, to uintptr }

func spanOf[T any](list []T) span {
	if cap(list) == 0 {
		return span{}
	}
	from := uintptr(unsafe.Pointer(unsafe.SliceData(list)))
	return span{from, from + uintptr(cap(list))*unsafe.Sizeof(list[:1][0])}
}

func spanOfText(text string) span {
	if text == "" {
		return span{}
	}
	from := uintptr(unsafe.Pointer(unsafe.StringData(text)))
	return span{from, from + uintptr(len(text))}
}

func spansOfEntries(list []impl.Entry) []span {
	spans := []span{spanOf(list)}
	for _, e := range list {
		spans = append(spans, spanOfText(e.Data))
	}
	return spans
}

func spansOfNode(n impl.Node) []span {
	return append(spansOfEntries(n.Log.Entries), spanOf(n.Conf), spanOf(n.Votes), spanOf(n.Peers))
}

func spansOfMessages(list ...impl.Message) []span {
	spans := []span{}
	for _, m := range list {
		spans = append(spans, spanOf(m.Conf), spanOfText(m.Data))
		spans = append(spans, spansOfEntries(m.Entries)...)
	}
	return spans
}

// wantSpansApart: nothing of an answer lies in an argument, nor in another
// thing of the same answer.
func wantSpansApart(t *testing.T, call string, answer []span, arguments ...span) {
	t.Helper()
	for at, one := range answer {
		for _, other := range slices.Concat(answer[:at], arguments) {
			if one.from < other.to && other.from < one.to {
				t.Fatalf("%s: memory is shared", call)
			}
		}
	}
}

// roomyNode has spare room behind its lists, which are all in the second.
func roomyNode(n impl.Node) (impl.Node, impl.Node) {
	cut, whole := n, n
	cut.Log, whole.Log.Entries = roomyLog(n.Log)
	whole.Conf = append(slices.Clone(n.Conf), -8, -9)
	whole.Votes = append(slices.Clone(n.Votes), -8, -9)
	whole.Peers = append(slices.Clone(n.Peers), peer(-8, -8, -8, -8), peer(-9, -9, -9, -9))
	for at := range whole.Log.Entries {
		whole.Log.Entries[at].Data = strings.Clone(whole.Log.Entries[at].Data)
	}
	cut.Conf, cut.Votes, cut.Peers = whole.Conf[:len(n.Conf)], whole.Votes[:len(n.Votes)], whole.Peers[:len(n.Peers)]
	return cut, whole
}

// checkMemory makes each call of the chapter, and looks at what it wrote, and
// where its answers lie.
func checkMemory(t *testing.T, one impl.Node, message impl.Message, data string) {
	t.Helper()
	n, whole := roomyNode(one)
	m, wholeMessage := roomyMessage(message)
	was, wasMessage := toldNode(whole), toldMessage(wholeMessage)
	given := slices.Concat(spansOfNode(whole), spansOfMessages(wholeMessage), []span{spanOfText(data)})
	hold := func(call string, answer impl.Node, told []impl.Message) {
		t.Helper()
		spans := append(slices.Concat(spansOfNode(answer), spansOfMessages(told...)), spanOf(told))
		wantSpansApart(t, call+" of "+toldNode(one), spans, given...)
		if toldNode(whole) != was || toldMessage(wholeMessage) != wasMessage {
			t.Fatalf("%s of %s: an argument was written into", call, toldNode(one))
		}
	}
	impl.NodeOk(n)
	ticked, told, _ := impl.Tick(n, 3)
	hold("Tick", ticked, told)
	received, told, _ := impl.Receive(n, m)
	hold("Receive", received, told)
	for _, kind := range []int{impl.EntryNone, impl.EntryConf, impl.EntryCommand} {
		proposed, told, _, _ := impl.Propose(n, kind, data)
		hold("Propose", proposed, told)
	}
	for index := n.Log.Start; index <= n.Commit && index <= n.Log.Start+20; index++ {
		settled, _ := impl.Settle(n, index)
		hold("Settle", settled, nil)
		hold("ConfAt", impl.Node{Conf: impl.ConfAt(n, index)}, nil)
	}
	hold("ConfOf", impl.Node{Conf: impl.ConfOf(n)}, nil)
	made, _ := impl.NodeNew(n.Id, n.Conf)
	hold("NodeNew", made, nil)
	// What is no longer held may be given out anew, and seem to be shared.
	runtime.KeepAlive(data)
}

func TestNodesAreNewAndNotWrittenInto(t *testing.T) {
	draw := drawsFrom(184)
	for range 3000 {
		n := drawnNode(draw)
		n.Clock = 20
		checkMemory(t, n, drawnMessageTo(draw, n), []string{bytesOf(drawnConf(draw)), drawnBytes(draw, 1+draw(60)), ""}[draw(3)])
	}
	for _, n := range append(eachRole(), wrongNodes()...) {
		if len(n.Log.Entries) < 100 && len(n.Votes) < 100 && len(n.Peers) < 100 {
			checkMemory(t, n, asksAppend(2, 1, 6, 17, 5, 17, command(5, mixedBytes(30)), conf(6, bytesOf([]int{1, 3}))), bytesOf([]int{1, 2, 3, 4}))
		}
	}
	stands := changedNode(stander(), func(n *impl.Node) { n.Votes = []int{1, 4} })
	checkMemory(t, stands, tellsVote(2, 1, 6, true), "")
	checkMemory(t, stands, tellsVote(3, 1, 6, false), "")
}

// What was answered ahead says nothing of what is answered.
func TestTheCoreKeepsNothing(t *testing.T) {
	for range 3 {
		for _, n := range eachRole() {
			wantNoTick(t, n, 0)
			checkTick(t, n, 4)
			wantNoReceive(t, n, asksVote(2, 3, 6, 17, 5))
			for _, kind := range eachKind() {
				m := bareOf(kind)
				m.From, m.To, m.Term = 2, 1, n.Term
				checkReceive(t, n, m)
			}
			checkPropose(t, n, impl.EntryCommand, "x")
			wantNoPropose(t, n, impl.EntryConf, "")
			checkSettle(t, n, 12)
			wantNoSettle(t, n, 9)
			wantConfOf(t, n, 1, 2, 3)
		}
	}
}

// No call panics, whatever it is given.
func TestTheCoreOfWhateverIsGiven(t *testing.T) {
	draw, right := drawsFrom(185), 0
	numbers := slices.Concat(oddInts(), sevenBitEdges())
	number := func() int { return numbers[draw(len(numbers))] }
	for range 20000 {
		n := drawnNode(draw)
		for range 1 + draw(2) {
			switch draw(12) {
			case 0:
				n.Id = number()
			case 1:
				n.Term = number()
			case 2:
				n.Vote, n.Lead = number(), draw(6)
			case 3:
				n.Role = draw(4)
			case 4:
				n.Conf = wrongConfs()[draw(len(wrongConfs()))]
			case 5:
				n.Log.Start = number()
			case 6:
				n.Log.Entries = append(slices.Clone(n.Log.Entries), entry(draw(9), draw(5), drawnBytes(draw, draw(4))))
			case 7:
				n.Commit = number()
			case 8:
				n.Clock, n.Limit = number(), draw(22)
			case 9:
				n.Votes = append(slices.Clone(n.Votes), draw(6))
			case 10:
				n.Peers = append(slices.Clone(n.Peers), drawnPeer(draw, n, draw(6)))
			case 11:
				n.Peers = append(slices.Clone(n.Peers), peer(number(), number(), number(), number()))
			}
		}
		wantNodeOk(t, n, plainNodeOk(n))
		m, index := drawnMessage(draw), number()
		isRight, isMine := plainNodeOk(n), m.To == n.Id
		_, _, ticked := impl.Tick(n, 3)
		_, _, received := impl.Receive(n, m)
		_, settled := impl.Settle(n, index)
		impl.Propose(n, draw(5), drawnBytes(draw, draw(130)))
		impl.ConfOf(n)
		impl.ConfAt(n, index)
		if ticked != isRight || received != (isRight && isMine) || settled != (isRight && within(index, n.Log.Start, n.Commit)) {
			t.Fatalf("%s: %v, %v, %v", toldNode(n), ticked, received, settled)
		}
		if isRight {
			right++
		}
	}
	if right < 1000 || right > 18000 {
		t.Errorf("%d of them are right", right)
	}
}
