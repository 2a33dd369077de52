package tests

import (
	"fmt"
	"math"
	"math/rand/v2"
	"slices"
	"strconv"
	"strings"
	"testing"

	"loop.example/g00232/impl"
)

func TestServerLimits(t *testing.T) {
	got := []int{impl.MaxApply, impl.MaxActs, impl.InTick, impl.InMessage, impl.InPropose, impl.InSnap}
	if !slices.Equal(got, []int{6, 60, 1, 2, 3, 4}) {
		t.Errorf("limits are %v", got)
	}
}

// serverKeep is that of the snapshot at 10.
func serverKeep() impl.Keep {
	return keepOf(sessions(session(4, 2, "put 9")), items(item("a", "x", 9), item("root", "", 1)))
}

// serverLog has the Terms and the conf of coreLog, and commands.
func serverLog() impl.Log {
	open, put, again := plainCommandText(askOpen()), plainCommandText(askPut(13, 1, "b", "y")), plainCommandText(askPut(13, 1, "b", "z"))
	get := plainCommandText(askGet(4, 3, "a"))
	return logOf(10, 2, none(2), conf(3, "\x01\x02\x03"), command(3, open), command(5, put), command(5, again), command(5, "none"), command(5, get))
}

func serverReplies() []string { return []string{"", "", "open 13", "put 14", "put 14", "", "is 9 x"} }

func serverNodes() []impl.Node {
	list := eachRole()
	for at := range list {
		list[at].Log = serverLog()
	}
	return list
}

func journalOf(n impl.Node, number int) impl.Journal {
	return journal(number, n.Term, n.Vote, copyOfLog(n.Log))
}

func snapOfNode(n impl.Node, k impl.Keep) impl.Snap {
	return snap(n.Log.Start, n.Log.StartTerm, n.Conf, plainKeepText(k))
}

// serverDisk has the two files of a server between two that are none of its.
func serverDisk(j impl.Journal, s impl.Snap) impl.Disk {
	return diskOf(kept("a", "12"), kept("j"+strconv.Itoa(j.Number), plainJournal(j)), kept("s"+strconv.Itoa(s.Index), plainSnap(s)), kept("t", ""))
}

// serverOf is right when the node is; k is the keep of its snapshot.
func serverOf(n impl.Node, k impl.Keep, applied int) impl.Server {
	j := journalOf(n, 7)
	keep, _ := plainFold(k, n.Log.Entries[:applied-n.Log.Start], n.Log.Start+1)
	return impl.Server{Node: copyOfNode(n), Disk: serverDisk(j, snapOfNode(n, k)), Journal: j, Keep: copyOfKeep(keep), Applied: applied}
}

// eachServer has each Role, with nothing applied, some and all.
func eachServer() []impl.Server {
	list := []impl.Server{}
	for _, n := range serverNodes() {
		for _, applied := range []int{10, 12, 13} {
			list = append(list, serverOf(n, serverKeep(), applied))
		}
	}
	return list
}

func theFollower() impl.Server { return serverOf(serverNodes()[0], serverKeep(), 13) }

func theLeader() impl.Server { return serverOf(serverNodes()[2], serverKeep(), 13) }

func copyOfDisk(d impl.Disk) impl.Disk {
	d.Files = slices.Clone(d.Files)
	for at, f := range d.Files {
		d.Files[at] = file(strings.Clone(f.Name), strings.Clone(f.Text), f.Kept)
	}
	return d
}

func copyOfServer(s impl.Server) impl.Server {
	s.Node, s.Disk, s.Keep = copyOfNode(s.Node), copyOfDisk(s.Disk), copyOfKeep(s.Keep)
	s.Journal.Log = copyOfLog(s.Journal.Log)
	return s
}

func changedServer(s impl.Server, change func(*impl.Server)) impl.Server {
	s = copyOfServer(s)
	change(&s)
	return s
}

func toldDisk(d impl.Disk) string {
	var out strings.Builder
	for _, f := range d.Files {
		fmt.Fprintf(&out, "file %q %q %d\n", f.Name, f.Text, f.Kept)
	}
	return out.String()
}

// toldServer is another text for each other server, right or not.
func toldServer(s impl.Server) string {
	return fmt.Sprintf("%s\n%sjournal %v\n%sapplied %d stage %q %d %d", toldNode(s.Node), toldDisk(s.Disk), s.Journal, toldKeep(s.Keep), s.Applied, s.Stage, s.StageAt, s.StageTerm)
}

func sameServer(a, b impl.Server) bool {
	return sameNode(a.Node, b.Node) && sameDisk(a.Disk, b.Disk) && sameJournal(a.Journal, b.Journal) && sameKeep(a.Keep, b.Keep) &&
		a.Applied == b.Applied && a.Stage == b.Stage && a.StageAt == b.StageAt && a.StageTerm == b.StageTerm
}

// A served is what Serve answers beside its true.
type served struct {
	server impl.Server
	acts   []impl.Act
	told   []impl.Message
	done   []impl.Done
	index  int
}

func serveOf(s impl.Server, in impl.Input) (served, bool) {
	server, acts, told, done, index, ok := impl.Serve(s, in)
	return served{server, acts, told, done, index}, ok
}

func sameServed(a, b served) bool {
	return sameServer(a.server, b.server) && slices.Equal(a.acts, b.acts) && toldMessages(a.told) == toldMessages(b.told) && slices.Equal(a.done, b.done) && a.index == b.index
}

func toldServed(x served) string {
	return fmt.Sprintf("%s\nacts %v\n%sdone %v index %d", toldServer(x.server), x.acts, toldMessages(x.told), x.done, x.index)
}

func toldServe(s impl.Server, in impl.Input) string {
	return fmt.Sprintf("Serve of %s\nand %d %d %s %d %q", toldServer(s), in.Kind, in.Limit, toldMessage(in.Message), in.Entry, in.Data)
}

func ticks(limit int) impl.Input { return impl.Input{Kind: impl.InTick, Limit: limit} }

func hears(m impl.Message) impl.Input { return impl.Input{Kind: impl.InMessage, Message: m} }

func proposes(kind int, data string) impl.Input {
	return impl.Input{Kind: impl.InPropose, Entry: kind, Data: data}
}

func snaps() impl.Input { return impl.Input{Kind: impl.InSnap} }

func doneOf(index int, e impl.Entry, reply string) impl.Done {
	return impl.Done{Index: index, Entry: e, Reply: reply}
}

// donesOf are those of serverLog from one index up to another.
func donesOf(from, to int) []impl.Done {
	list := []impl.Done{}
	for index := from; index <= to; index++ {
		list = append(list, doneOf(index, serverLog().Entries[index-11], serverReplies()[index-11]))
	}
	return list
}

// behindActs has done them on the disk of a server that has changed, whose
// journal has this number then.
func behindActs(t *testing.T, s impl.Server, number int, acts ...impl.Act) impl.Server {
	t.Helper()
	disk, done := impl.DoActs(s.Disk, acts)
	if done != len(acts) {
		t.Fatalf("%d of %v are done", done, acts)
	}
	s = copyOfServer(s)
	s.Disk, s.Journal = disk, journalOf(s.Node, number)
	return s
}

// appliedTo is a server of serverLog that has applied so much.
func appliedTo(s impl.Server, index int) impl.Server {
	s = copyOfServer(s)
	s.Keep, _ = plainFold(serverKeep(), serverLog().Entries[:index-10], 11)
	s.Applied = index
	return s
}

// wantServe holds what is answered against what it should be, and against the
// promise.
func wantServe(t *testing.T, s impl.Server, in impl.Input, want served) {
	t.Helper()
	got, ok := serveOf(s, in)
	if !ok || !sameServed(got, want) {
		t.Errorf("%.3000s\nis %v\n%.3000s\nwant\n%.3000s", toldServe(s, in), ok, toldServed(got), toldServed(want))
		return
	}
	if !isHeardOfNone(in) {
		wantLasting(t, s, got)
		fewCuts(t, s, got)
	}
}

func wantNoServe(t *testing.T, s impl.Server, in impl.Input) {
	t.Helper()
	if got, ok := serveOf(s, in); ok || !sameServed(got, served{}) {
		t.Errorf("%.3000s\nis %v\n%.3000s\nwant none", toldServe(s, in), ok, toldServed(got))
	}
}

// wantLasting: what comes of a right server is right, its acts leave its disk,
// and it comes up again as it was, with nothing to be done.
func wantLasting(t *testing.T, s impl.Server, got served) {
	t.Helper()
	then := got.server
	if !impl.ServerOk(then) || !plainServerOk(then) {
		t.Errorf("behind %s: not right: %s", toldServer(s), toldServer(then))
	}
	disk, done := impl.DoActs(s.Disk, got.acts)
	if done != len(got.acts) || !sameDisk(disk, then.Disk) || !impl.AllKept(disk) {
		t.Errorf("%d of the acts %v are done, and leave\n%swant\n%s", done, got.acts, toldDisk(disk), toldDisk(then.Disk))
	}
	up, acts, code := impl.Boot(then.Node.Id, then.Disk, 9)
	if code != 0 || len(acts) != 0 || up.Node.Term != then.Node.Term || up.Node.Vote != then.Node.Vote || !sameLog(up.Node.Log, then.Node.Log) || !slices.Equal(up.Node.Conf, then.Node.Conf) || !sameDisk(up.Disk, then.Disk) {
		t.Errorf("%s comes up as %d, %v, %s", toldServer(then), code, acts, toldServer(up))
	}
	for _, m := range got.told {
		if !impl.MessageOk(m) || m.From != s.Node.Id || m.Term != then.Node.Term {
			t.Errorf("%s tells %s", toldServer(s), toldMessage(m))
		}
	}
	if len(got.acts) > 60 || len(got.done) > 6 || then.Node.Term < s.Node.Term || then.Node.Commit < s.Node.Commit || then.Applied < s.Applied {
		t.Errorf("%s becomes %s", toldServer(s), toldServed(got))
	}
}

// wantUpAgain is the promise of what the power leaves of the acts of Serve.
func wantUpAgain(t *testing.T, s impl.Server, got served, left impl.Disk) {
	t.Helper()
	was, then := s.Node, got.server.Node
	up, acts, code := impl.Boot(was.Id, left, 9)
	if code != 0 || !impl.ServerOk(up) {
		t.Fatalf("behind %s and %v: the code is %d of\n%s", toldServer(s), got.acts, code, toldDisk(left))
	}
	isOld := up.Node.Term == was.Term && up.Node.Vote == was.Vote
	isNew := up.Node.Term == then.Term && up.Node.Vote == then.Vote
	if !isOld && !isNew || up.Node.Term < was.Term || up.Node.Term == was.Term && was.Vote != 0 && up.Node.Vote != was.Vote {
		t.Fatalf("behind %s and %v: the Term is %d, the Vote %d", toldServer(s), got.acts, up.Node.Term, up.Node.Vote)
	}
	for index := was.Log.Start + 1; index <= was.Commit; index++ {
		if index > up.Node.Log.Start && plainLog(up.Node.Log)[index] != plainLog(was.Log)[index] {
			t.Fatalf("behind %s and %v: the entry at %d is lost: %s", toldServer(s), got.acts, index, toldNode(up.Node))
		}
	}
	// What is no longer in the log is in the snapshot.
	for _, one := range []impl.Server{s, got.server} {
		if before, _ := impl.SnapOf(one); before.Index == up.Applied && plainKeepText(up.Keep) != before.Body {
			t.Fatalf("behind %s and %v: the keep is %s", toldServer(s), got.acts, toldKeep(up.Keep))
		}
	}
	if up.Applied != was.Log.Start && up.Applied != then.Log.Start || up.Node.Commit != up.Applied {
		t.Fatalf("behind %s and %v: there is another snapshot: %s", toldServer(s), got.acts, toldServer(up))
	}
	if behind, done := impl.DoActs(left, acts); done != len(acts) || !sameDisk(behind, up.Disk) {
		t.Fatalf("behind %s: the acts %v of Boot leave\n%s", toldServer(s), acts, toldDisk(behind))
	}
}

// fewCuts cuts behind each act, and leaves of what is not kept nothing, a
// little, half, most and all.
func fewCuts(t *testing.T, s impl.Server, got served) {
	t.Helper()
	for whole := range len(got.acts) + 1 {
		behind, _ := impl.DoActs(s.Disk, got.acts[:whole])
		for _, part := range [][2]int{{0, 0}, {0, 1}, {1, 0}, {2, -1}, {2, 0}} {
			left := []int{}
			for _, f := range behind.Files {
				left = append(left, f.Kept+part[0]*(len(f.Text)-f.Kept)/2+part[1])
			}
			cut, ok := impl.CutActs(s.Disk, got.acts, whole, left)
			if !ok {
				t.Fatalf("CutActs behind %d of %v is false", whole, got.acts)
			}
			wantUpAgain(t, s, got, cut)
		}
	}
}

// plainBoot goes by the chapter's words.
func plainBoot(id int, d impl.Disk, limit int) (impl.Server, []impl.Act, int) {
	newest, isThere := impl.NewestSnap(d)
	keep, isKeep := plainReadKeep(newest.Body)
	if !impl.AllKept(d) || !isThere || !isKeep {
		return impl.Server{}, nil, 1
	}
	j, opens, ok := impl.OpenJournal(d)
	acts := append(impl.ShedActs(d), opens...)
	behind, done := impl.DoActs(d, acts)
	if !ok || done < len(acts) {
		return impl.Server{}, nil, 2
	}
	n := impl.Node{Id: id, Term: j.Term, Vote: j.Vote, Conf: newest.Conf, Log: impl.LogBehind(j.Log, newest.Index, newest.Term), Commit: newest.Index, Limit: limit}
	if !sameLog(n.Log, j.Log) {
		more, then, ok := impl.JournalActs(behind, j, journal(0, j.Term, j.Vote, n.Log))
		last, done := impl.DoActs(behind, more)
		if !ok || done < len(more) {
			return impl.Server{}, nil, 3
		}
		j, behind, acts = then, last, append(acts, more...)
	}
	if !plainNodeOk(n) {
		return impl.Server{}, nil, 3
	}
	return impl.Server{Node: n, Disk: behind, Journal: j, Keep: keep, Applied: newest.Index}, acts, 0
}

func plainServerOk(s impl.Server) bool {
	up, acts, code := plainBoot(s.Node.Id, s.Disk, 20)
	if code != 0 || len(acts) > 0 || !plainNodeOk(s.Node) || !within(s.Applied, up.Applied, s.Node.Commit) {
		return false
	}
	n := copyOfNode(s.Node)
	n.Role, n.Lead, n.Commit, n.Clock, n.Limit, n.Votes, n.Peers = 0, 0, up.Applied, 0, 20, nil, nil
	keep, list := up.Keep, plainLog(s.Node.Log)
	for index := up.Applied + 1; index <= s.Applied; index++ {
		keep, _ = plainFold(keep, []impl.Entry{list[index]}, index)
	}
	return sameNode(n, up.Node) && sameJournal(s.Journal, up.Journal) && sameKeep(s.Keep, keep) &&
		len(s.Stage) <= 20000 && within(s.StageAt, 0, 1000000) && within(s.StageTerm, 0, 100000)
}

// A plainServer does what the chapter says word by word.
type plainServer struct{ served }

func (p *plainServer) do(list []impl.Act, ok bool) bool {
	disk, done := impl.DoActs(p.server.Disk, list)
	p.server.Disk, p.acts = disk, append(p.acts, list...)
	return ok && done == len(list)
}

func (p *plainServer) toJournal() bool {
	n := p.server.Node
	acts, then, ok := impl.JournalActs(p.server.Disk, p.server.Journal, journal(0, n.Term, n.Vote, n.Log))
	p.server.Journal = then
	return p.do(acts, ok)
}

func (p *plainServer) node(in impl.Input) bool {
	ok, n := false, p.server.Node
	switch in.Kind {
	case 1:
		p.server.Node, p.told, ok = impl.Tick(n, in.Limit)
	case 2:
		p.server.Node, p.told, ok = impl.Receive(n, in.Message)
	case 3:
		p.server.Node, p.told, p.index, ok = impl.Propose(n, in.Entry, in.Data)
	case 4:
		ok = true
	}
	return ok
}

// staged tells whether the snapshot is installed, and whether all is true.
func (p *plainServer) staged(m impl.Message) (bool, bool) {
	s := &p.server
	if s.StageAt != m.Index || s.StageTerm != m.LogTerm {
		s.Stage, s.StageAt, s.StageTerm = "", m.Index, m.LogTerm
	}
	if m.Commit != len(s.Stage) {
		return false, true
	}
	s.Stage += m.Data
	if !m.Last {
		return false, true
	}
	read, isSnap := impl.ReadSnap(s.Stage)
	keep, isKeep := plainReadKeep(read.Body)
	s.Stage = ""
	if !isSnap || !isKeep || read.Index != m.Index || read.Term != m.LogTerm || !slices.Equal(read.Conf, m.Conf) {
		return false, true
	}
	acts, ok := impl.SnapActs(s.Disk, read)
	if !p.do(acts, ok) {
		return false, false
	}
	s.Node.Log = impl.LogBehind(s.Node.Log, m.Index, m.LogTerm)
	s.Node.Conf, s.Node.Commit, s.Applied, s.Keep = m.Conf, m.Index, m.Index, keep
	return true, p.toJournal()
}

func (p *plainServer) install(m impl.Message) bool {
	reply, ok := tellsInstall(p.server.Node.Id, m.From, p.server.Node.Term, false, m.Index, 0), true
	switch {
	case m.Term < p.server.Node.Term:
	case m.Index <= p.server.Node.Commit:
		reply.Ok = true
	default:
		reply.Ok, ok = p.staged(m)
		reply.Commit = len(p.server.Stage)
	}
	p.told = append(p.told, reply)
	return ok
}

func (p *plainServer) snap() bool {
	s := &p.server
	if s.Applied <= s.Node.Log.Start {
		return true
	}
	of := snap(s.Applied, impl.LogTerm(s.Node.Log, s.Applied), impl.ConfAt(s.Node, s.Applied), plainKeepText(s.Keep))
	acts, ok := impl.SnapActs(s.Disk, of)
	if !p.do(acts, ok) {
		return false
	}
	s.Node, ok = impl.Settle(s.Node, s.Applied)
	return ok && p.toJournal()
}

func (p *plainServer) apply() {
	for range 6 {
		s := &p.server
		if s.Applied == s.Node.Commit {
			return
		}
		s.Applied++
		e := plainLog(s.Node.Log)[s.Applied]
		keep, replies := plainFold(s.Keep, []impl.Entry{e}, s.Applied)
		s.Keep = keep
		p.done = append(p.done, doneOf(s.Applied, e, replies[0]))
	}
}

func (p *plainServer) load() {
	newest, _ := impl.NewestSnap(p.server.Disk)
	text, _ := impl.FileAt(p.server.Disk, "s"+strconv.Itoa(newest.Index))
	for at, m := range p.told {
		if m.Kind != impl.AskInstall {
			continue
		}
		if m.Commit >= len(text) {
			m.Commit = 0
		}
		for _, b := range []byte(text[m.Commit:]) {
			if len(m.Data) < 60 {
				m.Data += bytesOf([]int{int(b)})
			}
		}
		m.Last = m.Commit+len(m.Data) == len(text)
		p.told[at] = m
	}
}

func plainServe(s impl.Server, in impl.Input) (*plainServer, bool) {
	p := &plainServer{served: served{server: copyOfServer(s)}}
	if !plainServerOk(s) || !p.node(in) || !p.toJournal() {
		return p, false
	}
	if in.Kind == 2 && in.Message.Kind == impl.AskInstall && !p.install(in.Message) {
		return p, false
	}
	if in.Kind == 4 {
		return p, p.snap() && len(p.acts) <= 60
	}
	p.apply()
	p.load()
	return p, len(p.acts) <= 60
}

// isHeardOfNone: no right server tells of more bytes than a snapshot has, or of
// a Term that is not yet. The words hold of such a message, but not the promise.
func isHeardOfNone(in impl.Input) bool {
	m := in.Message
	isChunk := m.Kind == impl.AskInstall && (m.Commit+len(m.Data) > 20000 || m.LogTerm > m.Term)
	return in.Kind == impl.InMessage && (isChunk || isToldByNone(m))
}

// checkServe holds Serve against the plain server and the promise.
func checkServe(t *testing.T, s impl.Server, in impl.Input) (served, bool) {
	t.Helper()
	p, right := plainServe(s, in)
	got, ok := serveOf(s, in)
	if ok != right || ok && !sameServed(got, p.served) || !ok && !sameServed(got, served{}) {
		t.Errorf("%s\nis %v\n%s\nwant %v\n%s", toldServe(s, in), ok, toldServed(got), right, toldServed(p.served))
	}
	if ok && !isHeardOfNone(in) {
		wantLasting(t, s, got)
	}
	return got, ok
}

// checkDrawnCuts comes up from some of what the power may leave of the acts.
func checkDrawnCuts(t *testing.T, draw func(int) int, s impl.Server, got served, count int) {
	t.Helper()
	for range count {
		whole := draw(len(got.acts) + 1)
		left := []int{}
		for range 6 {
			left = append(left, []int{0, draw(60), draw(500), 20000}[draw(4)])
		}
		cut, ok := impl.CutActs(s.Disk, got.acts, whole, left)
		if !ok {
			t.Fatalf("CutActs behind %d of %v is false", whole, got.acts)
		}
		wantUpAgain(t, s, got, cut)
	}
}

func wantBoot(t *testing.T, id int, d impl.Disk, limit int, want impl.Server, acts ...impl.Act) {
	t.Helper()
	got, list, code := impl.Boot(id, d, limit)
	if code != 0 || !sameServer(got, want) || !slices.Equal(list, acts) {
		t.Errorf("Boot(%d) of\n%sis %d, %v,\n%s\nwant %v,\n%s", id, toldDisk(d), code, list, toldServer(got), acts, toldServer(want))
		return
	}
	if !impl.ServerOk(got) || !plainServerOk(got) {
		t.Errorf("Boot(%d) of\n%sis not right: %s", id, toldDisk(d), toldServer(got))
	}
	// Boot may be cut itself: what comes up is the same, but for its Number.
	eachCut(t, d, acts, func(whole int, left impl.Disk) {
		again, more, code := impl.Boot(id, left, limit)
		behind, done := impl.DoActs(left, more)
		if code != 0 || !sameNode(again.Node, got.Node) || !sameKeep(again.Keep, got.Keep) || done != len(more) || !sameDisk(behind, again.Disk) {
			t.Fatalf("Boot(%d) of\n%sis cut behind %d acts, and is %d, %s", id, toldDisk(d), whole, code, toldServer(again))
		}
	})
}

func wantNoBoot(t *testing.T, id int, d impl.Disk, limit, want int) {
	t.Helper()
	if got, acts, code := impl.Boot(id, d, limit); code != want || len(acts) != 0 || !sameServer(got, impl.Server{}) {
		t.Errorf("Boot(%d, .., %d) of\n%.3000sis %d, %v, %.3000s; want %d", id, limit, toldDisk(d), code, acts, toldServer(got), want)
	}
}

// bootOf is a server that has come up: nothing of it but what disks tell.
func bootOf(id int, d impl.Disk, j impl.Journal, s impl.Snap, limit int) impl.Server {
	keep, _ := plainReadKeep(s.Body)
	n := impl.Node{Id: id, Term: j.Term, Vote: j.Vote, Conf: s.Conf, Log: j.Log, Commit: s.Index, Limit: limit}
	return impl.Server{Node: n, Disk: d, Journal: j, Keep: keep, Applied: s.Index}
}

func TestFormatDisk(t *testing.T) {
	for text, list := range rightConfs() {
		empty := plainSeal("\x00\x00" + plainShort(text) + "\x09\x00\x01\x04root\x00\x01")
		want := diskOf(kept("j0", framed("B\x00\x00", "H\x00\x00")), kept("s0", empty))
		d, ok := impl.FormatDisk(list)
		if !ok || !sameDisk(d, want) || !impl.AllKept(d) {
			t.Errorf("FormatDisk(%v) = %v, %v; want %v", list, d, ok, want)
		}
		for id := 1; id <= 4; id++ {
			wantBoot(t, id, d, 20, bootOf(id, want, impl.Journal{}, snap(0, 0, list, plainKeepText(impl.KeepNew())), 20))
			up, _, _ := impl.Boot(id, d, 20)
			if n, _ := impl.NodeNew(id, list); !sameNode(n, up.Node) || !sameKeep(up.Keep, impl.KeepNew()) {
				t.Errorf("%d comes up as %s", id, toldServer(up))
			}
		}
	}
	for _, list := range wrongConfs() {
		if d, ok := impl.FormatDisk(list); ok || len(d.Files) != 0 {
			t.Errorf("FormatDisk(%v) = %v, %v; want none", list, d, ok)
		}
	}
}

func TestBootOfEachServer(t *testing.T) {
	for _, s := range eachServer() {
		before, _ := impl.SnapOf(s)
		for id := 1; id <= 4; id++ {
			wantBoot(t, id, s.Disk, 3, bootOf(id, s.Disk, s.Journal, before, 3))
		}
	}
}

func TestBootOfEachIdAndLimit(t *testing.T) {
	s := theFollower()
	before, _ := impl.SnapOf(s)
	for _, number := range slices.Concat(oddInts(), []int{-1, 0, 6, 19, 20, 21, 257, 1<<32 + 1}) {
		if within(number, 1, 20) {
			wantBoot(t, 2, s.Disk, number, bootOf(2, s.Disk, s.Journal, before, number))
		} else {
			wantNoBoot(t, 2, s.Disk, number, 3)
		}
		if within(number, 1, 4) {
			wantBoot(t, number, s.Disk, 5, bootOf(number, s.Disk, s.Journal, before, 5))
		} else {
			wantNoBoot(t, number, s.Disk, 5, 3)
		}
	}
}

func baseJournal() impl.Journal { return journalOf(serverNodes()[0], 7) }

func baseSnap() impl.Snap { return snapOfNode(serverNodes()[0], serverKeep()) }

// Codes are looked for in their order: what follows a fault says nothing.
func TestBootOfDisksThatTellNoState(t *testing.T) {
	text, snapText := plainJournal(baseJournal()), plainSnap(baseSnap())
	noKeep := baseSnap()
	noKeep.Body += "\x00"
	for _, id := range []int{1, 0, 5} {
		for _, file := range []impl.File{kept("j7", text), kept("j7", ""), kept("j7", text+"x"), kept("j999", text+"x"), kept("k", "")} {
			wantNoBoot(t, id, impl.Disk{}, 5, 1)
			wantNoBoot(t, id, diskOf(file), 5, 1)
			wantNoBoot(t, id, diskOf(file, kept("s+", snapText)), 5, 1)
			wantNoBoot(t, id, diskOf(file, kept("s11", snapText)), 5, 1)
			wantNoBoot(t, id, diskOf(file, kept("s10", snapText[1:])), 5, 1)
			wantNoBoot(t, id, diskOf(file, kept("s10", plainSnap(noKeep))), 5, 1)
			wantNoBoot(t, id, diskOf(kept("a", "x"), file, kept("s10", plainSnap(snap(10, 2, []int{1}, "")))), 5, 1)
			wantNoBoot(t, id, besideOf(diskOf(file, kept("s10", snapText)), impl.File{Name: "b", Text: "xyz", Kept: 2}), 5, 1)
			wantNoBoot(t, id, diskOf(kept("s10", snapText), file), 5, 1)
		}
		for _, d := range wrongDisks() {
			wantNoBoot(t, id, d, 5, 1)
			whole := impl.Disk{Files: append(slices.Clone(d.Files), kept("j7", text), kept("s10", snapText))}
			if !impl.DiskOk(whole) {
				wantNoBoot(t, id, whole, 5, 1)
			}
		}
		for at := range 4 {
			d := copyOfDisk(theFollower().Disk)
			if d.Files[at].Text != "" {
				d.Files[at].Kept--
				wantNoBoot(t, id, d, 5, 1)
			}
		}
	}
}

// The newest snapshot is the one that counts, though its Body is no keep, and
// another one has one.
func TestBootOfManySnapshots(t *testing.T) {
	text, older := plainJournal(baseJournal()), snap(9, 1, []int{3}, plainKeepText(threeKeep()))
	d := diskOf(kept("j7", text), kept("s+", "x"), kept("s10", plainSnap(baseSnap())), kept("s11", "spoilt"), kept("s9", plainSnap(older)))
	left := diskOf(kept("j7", text), kept("s10", plainSnap(baseSnap())))
	wantBoot(t, 1, d, 5, bootOf(1, left, baseJournal(), baseSnap(), 5), dropsEach("s+", "s11", "s9")...)
	d.Files[3] = kept("s11", plainSnap(snap(11, 2, []int{1}, "no keep")))
	wantNoBoot(t, 1, d, 5, 1)
}

func TestBootOfDisksThatTellNoJournal(t *testing.T) {
	text, snapText := plainJournal(baseJournal()), plainSnap(baseSnap())
	files := []impl.File{kept("a", ""), kept("j", text), kept("j+", text), kept("j07", text), kept("j1000", text), kept("j7", ""), kept("j7", text[1:]), kept("j7", "x"+text), kept("j7", framed("H\x06\x00")), kept("j7", framed("E")), kept("j999", text+"x"), kept("j999", text[:len(text)-1])}
	for _, id := range []int{1, 0, 5} {
		for _, f := range files {
			wantNoBoot(t, id, diskOf(f, kept("s10", snapText)), 5, 2)
			wantNoBoot(t, id, diskOf(f, kept("s+", ""), kept("s10", snapText), kept("s9", snapText)), 5, 2)
		}
		wantNoBoot(t, id, diskOf(kept("s10", snapText)), 0, 2)
		wantNoBoot(t, id, diskOf(kept("j7", text), kept("j8", "x"), kept("s10", snapText)), 5, 2)
	}
}

func TestBootOfNodesThatAreNotRight(t *testing.T) {
	for _, term := range []int{0, 1, 2, 4, 5, 6, 100000} {
		j := baseJournal()
		j.Term = term
		d := serverDisk(j, baseSnap())
		if term >= 5 {
			wantBoot(t, 1, d, 5, bootOf(1, d, j, baseSnap(), 5))
		} else {
			wantNoBoot(t, 1, d, 5, 3)
		}
		newer := snap(30, 4, []int{1}, plainKeepText(serverKeep()))
		if term < 4 {
			wantNoBoot(t, 1, serverDisk(j, newer), 5, 3)
		}
	}
	// No file may follow the one of the greatest Number.
	j := baseJournal()
	j.Number = 999
	wantBoot(t, 1, serverDisk(j, baseSnap()), 5, bootOf(1, serverDisk(j, baseSnap()), j, baseSnap(), 5))
	other := baseSnap()
	other.Index = 12
	wantNoBoot(t, 1, serverDisk(j, other), 5, 3)
	j.Number = 998
	torn := serverDisk(j, other)
	torn.Files[1] = kept("j998", torn.Files[1].Text+"x")
	wantNoBoot(t, 1, torn, 5, 3)
}

// bootsBehind wants a journal to be written anew whose log is another one.
func bootsBehind(t *testing.T, l impl.Log, index, term int, want impl.Log) {
	t.Helper()
	j, s := journal(7, 6, 2, l), snap(index, term, []int{1, 3}, plainKeepText(serverKeep()))
	d := serverDisk(j, s)
	if sameLog(l, want) {
		wantBoot(t, 1, d, 5, bootOf(1, d, j, s, 5))
		return
	}
	then := journal(8, 6, 2, want)
	wantBoot(t, 1, d, 5, bootOf(1, serverDisk(then, s), then, s, 5), newFile(7, then)...)
}

func TestBootOfLogsAheadOfTheSnapshotAndBehindIt(t *testing.T) {
	l := serverLog()
	for index := range 20 {
		for term := range 7 {
			want := logOf(index, term)
			if e, there := plainLog(l)[index]; there && e.Term == term {
				want.Entries = l.Entries[index-10:]
			}
			bootsBehind(t, l, index, term, want)
		}
	}
	bootsBehind(t, logOf(0, 0), 0, 0, logOf(0, 0))
	bootsBehind(t, logOf(0, 0), 1000000, 6, logOf(1000000, 6))
	bootsBehind(t, logOf(999999, 3, none(6)), 1000000, 6, logOf(1000000, 6))
	bootsBehind(t, logOf(1000000, 6), 999999, 6, logOf(999999, 6))
}

// A journal that is long is not written anew when its log is that behind the
// snapshot.
func TestBootOfLongJournals(t *testing.T) {
	j := journal(7, 6, 2, logOf(10, 2, unlikeEntries(60, 3)...))
	d := serverDisk(j, baseSnap())
	if len(d.Files[1].Text) <= 400 {
		t.Fatal("this file is short")
	}
	wantBoot(t, 1, d, 5, bootOf(1, d, j, baseSnap(), 5))
	then := journal(8, 6, 2, logOf(12, 3, j.Log.Entries[2:]...))
	s := snap(12, 3, []int{1}, plainKeepText(serverKeep()))
	wantBoot(t, 1, serverDisk(j, s), 5, bootOf(1, serverDisk(then, s), then, s, 5), newFile(7, then)...)
}

// First what a cut snapshot left, then what a cut journal left, then the log.
func TestTheOrderOfTheActsOfBoot(t *testing.T) {
	j, s := baseJournal(), snap(12, 3, []int{1, 2, 3}, plainKeepText(serverKeep()))
	read, then := j, journal(9, j.Term, j.Vote, logOf(12, 3, j.Log.Entries[2:]...))
	read.Number = 8
	torn := plainJournal(j) + framed(headOf(9, 1))[:5]
	d := diskOf(kept("a", "12"), kept("j+", "torn"), kept("j6", "old"), kept("j7", torn), kept("s+", "torn"), kept("s10", plainSnap(baseSnap())), kept("s12", plainSnap(s)), kept("t", ""))
	acts := slices.Concat(dropsEach("s+", "s10", "j+", "j6"), newFile(7, read), newFile(8, then))
	wantBoot(t, 1, d, 5, bootOf(1, serverDisk(then, s), then, s, 5), acts...)
	// The same with a log that is right behind the snapshot.
	d.Files = slices.Delete(d.Files, 6, 7)
	acts = slices.Concat(dropsEach("s+", "j+", "j6"), newFile(7, read))
	wantBoot(t, 1, d, 5, bootOf(1, serverDisk(read, baseSnap()), read, baseSnap(), 5), acts...)
}

// fullDisk has so many files beside those of a server.
func fullDisk(d impl.Disk, count int) impl.Disk {
	return besideOf(d, manyFilesThatAreKept(count-len(d.Files))...)
}

func manyFilesThatAreKept(count int) []impl.File {
	list := manyFiles(count).Files
	for at := range list {
		list[at].Kept = len(list[at].Text)
	}
	return list
}

// A disk without room for a new file has no server come up that needs one.
func TestBootOfAFullDisk(t *testing.T) {
	j := baseJournal()
	for count := 29; count <= 30; count++ {
		whole := fullDisk(serverDisk(j, baseSnap()), count)
		wantBoot(t, 1, whole, 5, bootOf(1, whole, j, baseSnap(), 5))
		torn := copyOfDisk(whole)
		at := slices.IndexFunc(torn.Files, func(f impl.File) bool { return f.Name == "j7" })
		torn.Files[at] = kept("j7", torn.Files[at].Text+"x")
		older := fullDisk(serverDisk(j, snap(12, 3, []int{1}, plainKeepText(serverKeep()))), count)
		if _, _, code := impl.Boot(1, torn, 5); code != 2*(count-29) {
			t.Errorf("with %d files, of which one is torn, the code is %d", count, code)
		}
		if _, _, code := impl.Boot(1, older, 5); code != 3*(count-29) {
			t.Errorf("with %d files, of which one must be written anew, the code is %d", count, code)
		}
	}
}

func wantServerOk(t *testing.T, s impl.Server, want bool) {
	t.Helper()
	if got := impl.ServerOk(s); got != want {
		t.Errorf("ServerOk of %.3000s is %v", toldServer(s), got)
	}
	if plainServerOk(s) != want {
		t.Errorf("%.3000s: the plain answer is %v", toldServer(s), !want)
	}
}

func TestRightServers(t *testing.T) {
	wantServerOk(t, impl.Server{}, false)
	for _, s := range eachServer() {
		wantServerOk(t, s, true)
		for _, change := range rightChanges() {
			wantServerOk(t, changedServer(s, change), true)
		}
	}
}

// rightChanges are of what no disk tells.
func rightChanges() []func(*impl.Server) {
	return []func(*impl.Server){
		func(s *impl.Server) { s.Node.Lead = 4 },
		func(s *impl.Server) { s.Node.Clock = 20 },
		func(s *impl.Server) { s.Node.Limit = 20 },
		func(s *impl.Server) { s.Node.Commit = 17 },
		func(s *impl.Server) { s.Node.Commit = s.Applied },
		func(s *impl.Server) { s.Node.Role, s.Node.Votes, s.Node.Peers = 0, nil, nil },
		func(s *impl.Server) { s.Node.Role, s.Node.Votes, s.Node.Peers = 1, []int{2, 4}, nil },
		func(s *impl.Server) {
			s.Node.Role, s.Node.Votes, s.Node.Peers = 2, nil, []impl.Peer{peer(2, 1, 0, 0), peer(3, 18, 17, 20000)}
		},
		func(s *impl.Server) { s.Stage = "x" },
		func(s *impl.Server) { s.Stage = mixedBytes(20000) },
		func(s *impl.Server) { s.StageAt, s.StageTerm = 1000000, 100000 },
		func(s *impl.Server) { *s = appliedTo(*s, 11) },
		func(s *impl.Server) { s.Disk = diskOf(s.Disk.Files[1:3]...) },
		func(s *impl.Server) { s.Disk = fullDisk(s.Disk, 30) },
	}
}

// wrongChanges are each of one field alone.
func wrongChanges() []func(*impl.Server) {
	return []func(*impl.Server){
		func(s *impl.Server) { s.Node.Id = 0 },
		func(s *impl.Server) { s.Node.Id = 5 },
		func(s *impl.Server) { s.Node.Term++ },
		func(s *impl.Server) { s.Node.Term-- },
		func(s *impl.Server) { s.Node.Vote = 4 - s.Node.Vote },
		func(s *impl.Server) { s.Node.Role = 3 },
		func(s *impl.Server) { s.Node.Lead = 5 },
		func(s *impl.Server) { s.Node.Conf = []int{1} },
		func(s *impl.Server) { s.Node.Conf = []int{1, 2, 3} },
		func(s *impl.Server) { s.Node.Conf = nil },
		func(s *impl.Server) { s.Node.Log.Start, s.Node.Log.Entries = 11, s.Node.Log.Entries[1:] },
		func(s *impl.Server) { s.Node.Log.StartTerm = 1 },
		func(s *impl.Server) { s.Node.Log.Entries[6] = none(5) },
		func(s *impl.Server) { s.Node.Log.Entries = s.Node.Log.Entries[:6] },
		func(s *impl.Server) { s.Node.Log.Entries = append(s.Node.Log.Entries, none(5)) },
		func(s *impl.Server) { s.Node.Log.Entries = make([]impl.Entry, 100000) },
		func(s *impl.Server) { s.Node.Commit = 9 },
		func(s *impl.Server) { s.Node.Commit = 18 },
		func(s *impl.Server) { s.Node.Clock = 21 },
		func(s *impl.Server) { s.Node.Limit = 0 },
		func(s *impl.Server) { s.Node.Limit = 21 },
		func(s *impl.Server) { s.Node.Votes = []int{2, 1} },
		func(s *impl.Server) { s.Node.Peers = []impl.Peer{peer(2, 1, 0, 0)} },
		func(s *impl.Server) { s.Disk = impl.Disk{} },
		func(s *impl.Server) { s.Disk.Files = s.Disk.Files[:2] },
		func(s *impl.Server) { s.Disk.Files[0].Kept = 1 },
		func(s *impl.Server) { s.Disk.Files[0].Name = "j+" },
		func(s *impl.Server) { s.Disk.Files[0].Name = "j6" },
		func(s *impl.Server) { s.Disk.Files[1] = kept("j7", s.Disk.Files[1].Text+"x") },
		func(s *impl.Server) { s.Disk.Files[1].Name = "j8" },
		func(s *impl.Server) { s.Disk.Files[1] = kept("j7", plainJournal(fiveJournal())) },
		func(s *impl.Server) { s.Disk.Files[3].Name = "s11" },
		func(s *impl.Server) { s.Disk.Files = slices.Insert(s.Disk.Files, 2, kept("s+", "")) },
		func(s *impl.Server) { s.Disk.Files[2].Name = "s1" },
		func(s *impl.Server) {
			s.Disk.Files[2] = kept("s10", plainSnap(snap(10, 2, []int{1, 3}, plainKeepText(serverKeep()))))
		},
		func(s *impl.Server) {
			s.Disk.Files[2] = kept("s10", plainSnap(snap(10, 1, []int{1, 2}, plainKeepText(serverKeep()))))
		},
		func(s *impl.Server) {
			s.Disk.Files[2] = kept("s10", plainSnap(snap(10, 2, []int{1, 2}, plainKeepText(impl.KeepNew()))))
		},
		func(s *impl.Server) { s.Journal.Number = 8 },
		func(s *impl.Server) { s.Journal.Term++ },
		func(s *impl.Server) { s.Journal.Vote = 4 - s.Journal.Vote },
		func(s *impl.Server) { s.Journal.Log.Start = 9 },
		func(s *impl.Server) { s.Journal.Log.StartTerm = 1 },
		func(s *impl.Server) { s.Journal.Log.Entries[6] = none(5) },
		func(s *impl.Server) { s.Journal.Log.Entries = s.Journal.Log.Entries[:6] },
		func(s *impl.Server) { s.Keep.Items[0].Ver++ },
		func(s *impl.Server) { s.Keep.Items = s.Keep.Items[:1] },
		func(s *impl.Server) { s.Keep.Sessions[0].Last++ },
		func(s *impl.Server) { s.Keep.Sessions = nil },
		func(s *impl.Server) { s.Keep = impl.Keep{} },
		func(s *impl.Server) { s.Applied = 9 },
		func(s *impl.Server) { s.Applied = 14 },
		func(s *impl.Server) { s.Applied = -1 },
		func(s *impl.Server) { s.Applied = math.MaxInt },
		func(s *impl.Server) { s.Applied = math.MinInt },
		func(s *impl.Server) { s.Stage = mixedBytes(20001) },
		func(s *impl.Server) { s.StageAt = -1 },
		func(s *impl.Server) { s.StageAt = 1000001 },
		func(s *impl.Server) { s.StageTerm = -1 },
		func(s *impl.Server) { s.StageTerm = 100001 },
	}
}

func TestWrongServersAreRefused(t *testing.T) {
	vote := tellsVote(2, 1, 9, false)
	for _, s := range append(eachServer(), appliedTo(theFollower(), 12)) {
		for _, change := range wrongChanges() {
			wrong := changedServer(s, change)
			wantServerOk(t, wrong, false)
			for _, in := range []impl.Input{ticks(5), hears(vote), proposes(impl.EntryCommand, "x"), snaps()} {
				wantNoServe(t, wrong, in)
			}
		}
	}
}

// What is applied is what the Keep tells, neither more nor less.
func TestServersOfEachApplied(t *testing.T) {
	for _, n := range serverNodes() {
		for commit := 10; commit <= 17; commit++ {
			n.Commit = commit
			for applied := 10; applied <= 17; applied++ {
				s := serverOf(n, serverKeep(), applied)
				wantServerOk(t, s, applied <= commit)
				for of := 10; of <= 17; of++ {
					s.Keep = appliedTo(s, of).Keep
					wantServerOk(t, s, applied <= commit && sameKeep(s.Keep, appliedTo(s, applied).Keep))
				}
			}
		}
	}
}

func TestInputsOfEachKind(t *testing.T) {
	for _, s := range eachServer() {
		for _, kind := range slices.Concat(oddInts(), []int{-1, 0, 5, 6, 257, 1<<32 + 1}) {
			in := impl.Input{Kind: kind, Limit: 5, Message: tellsVote(2, 1, 3, false), Entry: impl.EntryNone}
			_, ok := serveOf(s, in)
			if isRight := within(kind, 1, 4) && (kind != 3 || s.Node.Role == impl.RoleLead); ok != isRight {
				t.Errorf("an input of the Kind %d is %v", kind, ok)
			}
			if !ok {
				wantNoServe(t, s, in)
			}
		}
	}
}

// What the node refuses leaves nothing, though there is something to apply.
func TestInputsThatTheNodeRefuses(t *testing.T) {
	for _, s := range eachServer() {
		for _, limit := range []int{-1, 0, 21, math.MinInt, math.MaxInt} {
			wantNoServe(t, s, ticks(limit))
		}
		for _, m := range []impl.Message{{}, tellsVote(1, 2, 6, true), tellsVote(2, 3, 9, true), tellsVote(1, 1, 6, true), tellsVote(2, 1, 100001, true), asksInstall(2, 1, 9, 20, 5, 0), changedMessage(asksInstall(2, 1, 9, 20, 5, 0, 1), func(m *impl.Message) { m.Data = mixedBytes(61) }), asksAppend(2, 1, 4, 17, 5, 13, none(5))} {
			wantNoServe(t, s, hears(m))
		}
		wantNoServe(t, s, proposes(0, ""))
		wantNoServe(t, s, proposes(4, ""))
		wantNoServe(t, s, proposes(impl.EntryNone, "x"))
		wantNoServe(t, s, proposes(impl.EntryConf, "\x01\x02"))
		wantNoServe(t, s, proposes(impl.EntryCommand, mixedBytes(121)))
		if s.Node.Role != impl.RoleLead {
			wantNoServe(t, s, proposes(impl.EntryNone, ""))
			wantNoServe(t, s, proposes(impl.EntryCommand, "x"))
		}
	}
}

// A tick alone writes nothing.
func TestATickThatWritesNothing(t *testing.T) {
	for _, s := range eachServer() {
		want := appliedTo(s, 13)
		told := []impl.Message{}
		if s.Node.Role == impl.RoleLead {
			e := serverLog().Entries
			told = append(told, asksAppend(1, 2, 5, 14, 5, 13, e[4:]...), asksAppend(1, 3, 5, 15, 5, 13, e[5:]...))
		} else {
			want.Node.Clock = 4
		}
		wantServe(t, s, ticks(9), served{server: want, told: told, done: donesOf(s.Applied+1, 13)})
	}
}

// A Term and a Vote are written ahead of their being told.
func TestATickOfOneThatStands(t *testing.T) {
	s := theFollower()
	s.Node.Clock = 4
	acts := []impl.Act{adds("j7", framed(headOf(7, 1))), keeps("j7")}
	want := changedServer(s, func(s *impl.Server) { s.Node = standing(s.Node, 9) })
	want = behindActs(t, want, 7, acts...)
	wantServe(t, s, ticks(9), served{server: want, acts: acts, told: []impl.Message{asksVote(1, 2, 7, 17, 5), asksVote(1, 3, 7, 17, 5)}})
}

// A node alone writes its Term and its entry at once, and applies it.
func TestATickOfOneThatIsAlone(t *testing.T) {
	d, _ := impl.FormatDisk([]int{3})
	s, _, _ := impl.Boot(3, d, 1)
	acts := []impl.Act{adds("j0", framed(headOf(1, 3), "E\x01\x01\x01")), keeps("j0")}
	want := changedServer(s, func(s *impl.Server) {
		s.Node.Term, s.Node.Vote, s.Node.Role, s.Node.Lead, s.Node.Limit, s.Node.Commit = 1, 3, impl.RoleLead, 3, 8, 1
		s.Node.Log.Entries, s.Applied = []impl.Entry{none(1)}, 1
	})
	want = behindActs(t, want, 0, acts...)
	wantServe(t, s, ticks(8), served{server: want, acts: acts, done: []impl.Done{doneOf(1, none(1), "")}})
	put := plainCommandText(askOpen())
	acts = []impl.Act{adds("j0", framed("E\x02\x01\x03"+put)), keeps("j0")}
	then := changedServer(want, func(s *impl.Server) {
		s.Node.Log.Entries, s.Node.Commit, s.Applied = append(s.Node.Log.Entries, command(1, put)), 2, 2
		s.Keep = keepOf(sessions(session(2, 0, "")), items(item("root", "", 1)))
	})
	then = behindActs(t, then, 0, acts...)
	wantServe(t, want, proposes(impl.EntryCommand, put), served{server: then, acts: acts, done: []impl.Done{doneOf(2, command(1, put), "open 2")}, index: 2})
}

func TestVotesAreWritten(t *testing.T) {
	s := theFollower()
	acts := []impl.Act{adds("j7", framed(headOf(6, 3))), keeps("j7")}
	want := changedServer(s, func(s *impl.Server) { s.Node.Vote, s.Node.Clock = 3, 0 })
	want = behindActs(t, want, 7, acts...)
	wantServe(t, s, hears(asksVote(3, 1, 6, 17, 5)), served{server: want, acts: acts, told: []impl.Message{tellsVote(1, 3, 6, true)}})
	// Asked again, or refused, there is nothing to write.
	wantServe(t, want, hears(asksVote(3, 1, 6, 17, 5)), served{server: want, told: []impl.Message{tellsVote(1, 3, 6, true)}})
	wantServe(t, want, hears(asksVote(2, 1, 6, 17, 5)), served{server: want, told: []impl.Message{tellsVote(1, 2, 6, false)}})
	// A Term alone is written, too.
	acts = []impl.Act{adds("j7", framed(headOf(8, 0))), keeps("j7")}
	then := changedServer(want, func(s *impl.Server) { s.Node.Term, s.Node.Vote, s.Node.Lead = 8, 0, 0 })
	then = behindActs(t, then, 7, acts...)
	wantServe(t, want, hears(asksVote(2, 1, 8, 3, 2)), served{server: then, acts: acts, told: []impl.Message{tellsVote(1, 2, 8, false)}})
}

func TestEntriesAreWritten(t *testing.T) {
	s := theFollower()
	put := none(6)
	// Behind the log.
	acts := []impl.Act{adds("j7", framed(plainEntry(18, put))), keeps("j7")}
	want := changedServer(s, func(s *impl.Server) {
		s.Node.Lead, s.Node.Clock = 2, 0
		s.Node.Log.Entries = append(s.Node.Log.Entries, put)
	})
	want = behindActs(t, want, 7, acts...)
	wantServe(t, s, hears(asksAppend(2, 1, 6, 17, 5, 13, put)), served{server: want, acts: acts, told: []impl.Message{tellsAppend(1, 2, 6, true, 18)}})
	wantServe(t, want, hears(asksAppend(2, 1, 6, 17, 5, 13, put)), served{server: want, told: []impl.Message{tellsAppend(1, 2, 6, true, 18)}})
	// In the place of others, of a greater Term, and up to a greater Commit.
	acts = []impl.Act{adds("j7", framed(headOf(7, 0), plainEntry(15, none(7)))), keeps("j7")}
	want = changedServer(s, func(s *impl.Server) {
		s.Node.Term, s.Node.Lead, s.Node.Clock, s.Node.Commit = 7, 2, 0, 15
		s.Node.Log.Entries = append(s.Node.Log.Entries[:4], none(7))
		*s = appliedTo(*s, 14)
		s.Applied = 15
	})
	want = behindActs(t, want, 7, acts...)
	done := append(donesOf(14, 14), doneOf(15, none(7), ""))
	wantServe(t, s, hears(asksAppend(2, 1, 7, 14, 5, 20, none(7))), served{server: want, acts: acts, told: []impl.Message{tellsAppend(1, 2, 7, true, 15)}, done: done})
	// Refused.
	want = changedServer(s, func(s *impl.Server) { s.Node.Lead, s.Node.Clock = 2, 0 })
	wantServe(t, s, hears(asksAppend(2, 1, 6, 17, 6, 17)), served{server: want, told: []impl.Message{tellsAppend(1, 2, 6, false, 16)}})
}

func TestAFileThatIsLongIsLeft(t *testing.T) {
	for _, length := range []int{399, 400, 401, 402} {
		n := serverNodes()[0]
		s := serverOf(n, serverKeep(), 13)
		s.Disk.Files[1] = kept("j7", padded(t, s.Journal, length))
		wantServerOk(t, s, true)
		want := changedServer(s, func(s *impl.Server) { s.Node.Clock = 4 })
		if length <= 400 {
			wantServe(t, s, ticks(9), served{server: want})
			wantServe(t, changedServer(s, func(s *impl.Server) { *s = appliedTo(*s, 10) }), ticks(9), served{server: want, done: donesOf(11, 13)})
			continue
		}
		acts := newFile(7, journalOf(n, 8))
		want = behindActs(t, want, 8, acts...)
		wantServe(t, s, ticks(9), served{server: want, acts: acts})
		// A snapshot writes a file ahead of it and behind it.
		want = changedServer(want, func(s *impl.Server) { s.Node.Clock = 3 })
		of := snap(13, 3, []int{1, 2, 3}, plainKeepText(s.Keep))
		settled, _ := impl.Settle(n, 13)
		acts = slices.Concat(acts, newSnap(of), dropsEach("s10"), newFile(8, journalOf(settled, 9)))
		then := changedServer(s, func(s *impl.Server) { s.Node = settled })
		wantServe(t, s, snaps(), served{server: behindActs(t, then, 9, acts...), acts: acts})
	}
}

// padded is a file of this journal that is so long, by heads of other Terms and
// of longer numbers ahead of the last one.
func padded(t *testing.T, j impl.Journal, length int) string {
	t.Helper()
	entries := framed(entriesOf(j.Log)...)
	begin, end := framed(beginOf(j.Log.Start, j.Log.StartTerm)), framed(headOf(j.Term, j.Vote))+entries
	for longer := range 9 {
		text := begin + strings.Repeat(framed(headOf(200, 0)), longer)
		for len(text)+len(end) < length {
			text += framed(headOf(2, 0))
		}
		if len(text)+len(end) == length {
			return text + end
		}
	}
	t.Fatalf("no file of %d bytes is made", length)
	return ""
}

func TestProposals(t *testing.T) {
	for _, e := range []impl.Entry{none(5), command(5, plainCommandText(askOpen())), command(5, "")} {
		s := theLeader()
		acts := []impl.Act{adds("j7", framed(plainEntry(18, e))), keeps("j7")}
		want := changedServer(s, func(s *impl.Server) { s.Node.Log.Entries = append(s.Node.Log.Entries, e) })
		list := want.Node.Log.Entries
		want = behindActs(t, want, 7, acts...)
		told := []impl.Message{asksAppend(1, 2, 5, 14, 5, 13, list[4:]...), asksAppend(1, 3, 5, 15, 5, 13, list[5:]...)}
		wantServe(t, s, proposes(e.Kind, e.Data), served{server: want, acts: acts, told: told, index: 18})
	}
	s := changedServer(theLeader(), func(s *impl.Server) { s.Node.Commit = 17 })
	e := conf(5, "\x01\x02")
	acts := []impl.Act{adds("j7", framed(plainEntry(18, e))), keeps("j7")}
	want := appliedTo(s, 17)
	want.Node.Log.Entries, want.Node.Peers = append(want.Node.Log.Entries, e), want.Node.Peers[:1]
	want = behindActs(t, want, 7, acts...)
	wantServe(t, s, proposes(e.Kind, e.Data), served{server: want, acts: acts, told: []impl.Message{asksAppend(1, 2, 5, 14, 5, 17, want.Node.Log.Entries[4:]...)}, done: donesOf(14, 17), index: 18})
}

// At most six are applied by one input, whatever it is.
func TestWhatIsApplied(t *testing.T) {
	for count := range 21 {
		n := changedNode(serverNodes()[0], func(n *impl.Node) {
			n.Log, n.Commit = logOf(10, 2, noneOf(slices.Repeat([]int{5}, 20)...)...), 10+count
		})
		s, applied := serverOf(n, serverKeep(), 10), 10
		for range 5 {
			reached := min(applied+6, 10+count)
			dones := []impl.Done{}
			for index := applied + 1; index <= reached; index++ {
				dones = append(dones, doneOf(index, none(5), ""))
			}
			want := changedServer(s, func(s *impl.Server) { s.Applied, s.Node.Vote, s.Node.Clock = reached, 2, 0 })
			acts := []impl.Act{}
			if applied == 10 && s.Node.Vote == 0 {
				acts = append(acts, adds("j7", framed(headOf(6, 2))), keeps("j7"))
			}
			want = behindActs(t, want, 7, acts...)
			wantServe(t, s, hears(asksVote(2, 1, 6, 30, 5)), served{server: want, acts: acts, told: []impl.Message{tellsVote(1, 2, 6, true)}, done: dones})
			s, applied = want, reached
		}
	}
}

func TestRepliesOfEachCommand(t *testing.T) {
	asks := []impl.Command{askGet(4, 3, "a"), askPut(4, 4, "b", "w"), askSwap(4, 5, "b", "v", 12), askSwap(4, 5, "b", "u", 12), askSwap(4, 6, "b", "u", 12), askDrop(4, 7, "a"), askGet(4, 8, "a"), askGet(4, 10, "a"), askGet(4, 2, "a"), askGet(5, 1, "a"), askOpen(), askPut(21, 1, "c", "")}
	replies := []string{"is 9 x", "put 12", "put 13", "put 13", "not 13", "drop", "no", "gap", "old", "none", "open 21", "put 22"}
	n := serverNodes()[0]
	n.Log, n.Commit = logOf(10, 2), 22
	for _, x := range asks {
		n.Log.Entries = append(n.Log.Entries, command(5, plainCommandText(x)))
	}
	s := serverOf(n, serverKeep(), 10)
	got := []string{}
	for range 2 {
		then, ok := checkServe(t, s, hears(tellsVote(2, 1, 6, false)))
		if !ok || len(then.done) != 6 {
			t.Fatalf("%v are done", then.done)
		}
		for _, d := range then.done {
			got = append(got, d.Reply)
		}
		s = then.server
	}
	want := keepOf(sessions(session(4, 8, "no"), session(21, 1, "put 22")), items(item("b", "v", 13), item("c", "", 22), item("root", "", 1)))
	if !slices.Equal(got, replies) || !sameKeep(s.Keep, want) || s.Applied != 22 {
		t.Errorf("the replies are %q, the keep %s", got, toldKeep(s.Keep))
	}
}

func TestSnapshotsOfWhatIsApplied(t *testing.T) {
	for _, n := range serverNodes() {
		for applied := 10; applied <= 13; applied++ {
			s := serverOf(n, serverKeep(), applied)
			if applied == 10 {
				wantServe(t, s, snaps(), served{server: s})
				continue
			}
			confs := map[int][]int{11: {1, 2}, 12: {1, 2, 3}, 13: {1, 2, 3}}
			of := snap(applied, serverLog().Entries[applied-11].Term, confs[applied], plainKeepText(s.Keep))
			want := changedServer(s, func(s *impl.Server) {
				s.Node.Conf = confs[applied]
				s.Node.Log = logOf(applied, of.Term, serverLog().Entries[applied-10:]...)
			})
			acts := slices.Concat(newSnap(of), dropsEach("s10"), newFile(7, journalOf(want.Node, 8)))
			want = behindActs(t, want, 8, acts...)
			wantServe(t, s, snaps(), served{server: want, acts: acts})
			if got, ok := impl.SnapOf(want); !ok || !sameSnap(got, of) {
				t.Errorf("the snapshot is %v, %v; want %v", got, ok, of)
			}
			wantServe(t, want, snaps(), served{server: want})
			// What was not applied yet is applied behind the snapshot, too.
			then := changedServer(want, func(s *impl.Server) { s.Node.Commit, s.Node.Limit = 17, 20 })
			got, ok := checkServe(t, then, hears(tellsVote(2, 1, 1, false)))
			if !ok || !slices.Equal(got.done, donesOf(applied+1, 17)) || !sameKeep(got.server.Keep, appliedTo(s, 17).Keep) {
				t.Errorf("behind the snapshot at %d there is done %v", applied, got.done)
			}
		}
	}
}

// keepOfBytes has eight items, whose Vals have so many bytes, up to 160.
func keepOfBytes(count int) impl.Keep {
	list := manyItems(8)
	for at := range list {
		list[at].Val, list[at].Ver = mixedBytes(min(20, count)), 1
		count -= len(list[at].Val)
	}
	return keepOf(nil, list)
}

// snapOfLength is a snapshot whose text is so long.
func snapOfLength(t *testing.T, index, term int, conf []int, length int) impl.Snap {
	t.Helper()
	for count := range 161 {
		s := snap(index, term, conf, plainKeepText(keepOfBytes(count)))
		if len(plainSnap(s)) == length {
			return s
		}
	}
	t.Fatalf("no snapshot of %d bytes is made", length)
	return impl.Snap{}
}

func keepIn(s impl.Snap) impl.Keep {
	keep, _ := plainReadKeep(s.Body)
	return keep
}

// sendsOf is a server that leads, whose peer lacks what the snapshot has.
func sendsOf(s impl.Snap, sent int) impl.Server {
	n := serverNodes()[2]
	n.Peers = []impl.Peer{peer(2, 10, 3, sent), peer(3, 18, 17, 9)}
	return serverOf(n, keepIn(s), 13)
}

func TestWhatIsToldOfASnapshot(t *testing.T) {
	for _, length := range []int{59, 60, 61, 119, 120, 121, 150, 180, 199} {
		s := snapOfLength(t, 10, 2, []int{1, 2}, length)
		text := plainSnap(s)
		for _, sent := range []int{0, 1, 30, 59, 60, 61, 119, 120, length - 61, length - 60, length - 59, length - 2, length - 1, length, length + 1, length + 60, 19999, 20000} {
			if sent < 0 {
				continue
			}
			from := sent
			if from >= length {
				from = 0
			}
			chunk := text[from:min(from+60, length)]
			m := asksInstall(1, 2, 5, 10, 2, from, 1, 2)
			m.Data, m.Last = chunk, from+len(chunk) == length
			leads := sendsOf(s, sent)
			wantServe(t, leads, ticks(9), served{server: leads, told: []impl.Message{m, asksAppend(1, 3, 5, 17, 5, 13)}})
		}
	}
}

// One that is told of where to go on from is sent the next chunk.
func TestWhatIsToldOfASnapshotThatIsAskedFor(t *testing.T) {
	s := snapOfLength(t, 10, 2, []int{1, 2}, 130)
	for _, commit := range []int{0, 1, 60, 70, 120, 129, 130, 131, 20000, 20001, 1000000} {
		for _, index := range []int{10, 9, 11} {
			leads := sendsOf(s, 60)
			sent := commit
			if index != 10 {
				sent = 0
			}
			from := sent
			if from >= 130 {
				from = 0
			}
			want := changedServer(leads, func(s *impl.Server) { s.Node.Peers[0].Sent = sent })
			m := asksInstall(1, 2, 5, 10, 2, from, 1, 2)
			m.Data = plainSnap(s)[from:min(from+60, 130)]
			m.Last = from+len(m.Data) == 130
			wantServe(t, leads, hears(tellsInstall(2, 1, 5, false, index, commit)), served{server: want, told: []impl.Message{m}})
		}
	}
}

// Many are told at once, each from where it is; behind a snapshot that was taken
// meanwhile it is that one.
func TestWhatManyAreToldOfASnapshot(t *testing.T) {
	first := snapOfLength(t, 10, 2, []int{1, 2}, 130)
	n := changedNode(serverNodes()[2], func(n *impl.Node) {
		n.Peers = []impl.Peer{peer(2, 10, 3, 60), peer(3, 1, 0, 120)}
	})
	s := serverOf(n, keepIn(first), 13)
	chunk := func(to, from int, data string, last bool) impl.Message {
		m := asksInstall(1, to, 5, 10, 2, from, 1, 2)
		m.Data, m.Last = data, last
		return m
	}
	text := plainSnap(first)
	wantServe(t, s, ticks(9), served{server: s, told: []impl.Message{chunk(2, 60, text[60:120], false), chunk(3, 120, text[120:], true)}})
	behind, _ := checkServe(t, s, snaps())
	then, _ := checkServe(t, behind.server, ticks(9))
	newer, _ := impl.SnapOf(behind.server)
	text = plainSnap(newer)
	for at, from := range []int{60, 120} {
		m := then.told[at]
		if newer.Index != 13 || m.Index != 13 || m.LogTerm != 3 || !slices.Equal(m.Conf, []int{1, 2, 3}) || m.Commit != from || m.Data != text[from:min(from+60, len(text))] {
			t.Errorf("of the snapshot at 13 there is told %s", toldMessage(m))
		}
	}
}

// installs is the chunk of a snapshot's text from one place up to another.
func installs(term int, s impl.Snap, from, to int) impl.Message {
	m := asksInstall(2, 1, term, s.Index, s.Term, from, s.Conf...)
	text := plainSnap(s)
	m.Data, m.Last = text[from:to], to == len(text)
	return m
}

// heard is a server behind an AskInstall of its Term.
func heard(s impl.Server) impl.Server {
	return changedServer(s, func(s *impl.Server) { s.Node = heeding(s.Node, 2) })
}

// stagedAt has so much of a snapshot.
func stagedAt(s impl.Server, of impl.Snap, length int) impl.Server {
	return changedServer(s, func(s *impl.Server) { s.Stage, s.StageAt, s.StageTerm = plainSnap(of)[:length], of.Index, of.Term })
}

// installed is a server, whose journal was the seventh, behind a snapshot.
func installed(t *testing.T, s impl.Server, of impl.Snap, l impl.Log, ahead ...impl.Act) (impl.Server, []impl.Act) {
	t.Helper()
	want := stagedAt(heard(s), of, 0)
	want.Node.Conf, want.Node.Commit, want.Applied, want.Keep = of.Conf, of.Index, of.Index, keepIn(of)
	want.Node.Log = l
	acts := slices.Concat(ahead, newSnap(of), dropsEach("s10"), newFile(7, journalOf(want.Node, 8)))
	return behindActs(t, want, 8, acts...), acts
}

func tellsStage(term int, s impl.Snap, length int) []impl.Message {
	return []impl.Message{tellsInstall(1, 2, term, false, s.Index, length)}
}

func tellsInstalled(term int, s impl.Snap) []impl.Message {
	return []impl.Message{tellsInstall(1, 2, term, true, s.Index, 0)}
}

func farSnap(t *testing.T, length int) impl.Snap {
	t.Helper()
	return snapOfLength(t, 20, 5, []int{1, 2, 4}, length)
}

func TestASnapshotThatComesInChunks(t *testing.T) {
	of := farSnap(t, 130)
	for _, s := range eachServer() {
		if s.Node.Role == impl.RoleLead {
			continue
		}
		done := donesOf(s.Applied+1, 13)
		want := stagedAt(heard(appliedTo(s, 13)), of, 60)
		wantServe(t, s, hears(installs(6, of, 0, 60)), served{server: want, told: tellsStage(6, of, 60), done: done})
		then := stagedAt(want, of, 120)
		wantServe(t, want, hears(installs(6, of, 60, 120)), served{server: then, told: tellsStage(6, of, 120)})
		last, acts := installed(t, then, of, logOf(20, 5))
		wantServe(t, then, hears(installs(6, of, 120, 130)), served{server: last, acts: acts, told: tellsInstalled(6, of)})
		// The last one once more: all is there.
		wantServe(t, last, hears(installs(6, of, 120, 130)), served{server: last, told: tellsInstalled(6, of)})
		wantServe(t, last, hears(installs(6, of, 0, 60)), served{server: last, told: tellsInstalled(6, of)})
	}
}

// One that comes twice, or is left out, changes nothing.
func TestChunksThatDoNotFollow(t *testing.T) {
	of := farSnap(t, 130)
	for _, length := range []int{0, 1, 59, 60, 120, 129} {
		s := stagedAt(heard(theFollower()), of, length)
		for _, from := range []int{0, 1, 58, 59, 60, 61, 120, 121, 129, 130} {
			m := installs(6, of, from, min(130, from+10))
			if from == length {
				continue
			}
			wantServe(t, s, hears(m), served{server: s, told: tellsStage(6, of, length)})
			m.Commit = 1000000
			wantServe(t, s, hears(m), served{server: s, told: tellsStage(6, of, length)})
		}
	}
}

// Another Index or Term begins anew, also when it does not begin with its first
// chunk.
func TestChunksOfAnotherSnapshotBetween(t *testing.T) {
	of := farSnap(t, 130)
	s := stagedAt(heard(theFollower()), of, 60)
	for _, other := range []impl.Snap{snapOfLength(t, 21, 5, []int{1, 2, 4}, 130), snapOfLength(t, 20, 4, []int{1, 2, 4}, 130), snapOfLength(t, 14, 3, []int{1, 2, 4}, 130)} {
		want := stagedAt(s, other, 50)
		wantServe(t, s, hears(installs(6, other, 0, 50)), served{server: want, told: tellsStage(6, other, 50)})
		none := stagedAt(s, other, 0)
		wantServe(t, s, hears(installs(6, other, 60, 100)), served{server: none, told: tellsStage(6, other, 0)})
		wantServe(t, s, hears(installs(6, other, 100, 130)), served{server: none, told: tellsStage(6, other, 0)})
		back := stagedAt(want, of, 0)
		wantServe(t, want, hears(installs(6, of, 60, 120)), served{server: back, told: tellsStage(6, of, 0)})
	}
	// Another Conf alone is not asked for till the last chunk.
	other := snap(20, 5, []int{1}, of.Body)
	m := installs(6, of, 60, 120)
	m.Conf = other.Conf
	wantServe(t, s, hears(m), served{server: stagedAt(s, of, 120), told: tellsStage(6, of, 120)})
}

// What is agreed on already is not staged.
func TestSnapshotsUpToTheCommitAndBehindIt(t *testing.T) {
	for index := 0; index <= 14; index++ {
		of := snap(index, 3, []int{1, 2}, plainKeepText(impl.KeepNew()))
		s := stagedAt(appliedTo(theFollower(), 12), farSnap(t, 130), 60)
		want := appliedTo(heard(s), 13)
		if index <= 13 {
			wantServe(t, s, hears(installs(6, of, 0, len(plainSnap(of)))), served{server: want, told: tellsInstalled(6, of), done: donesOf(13, 13)})
			wantServe(t, s, hears(installs(6, of, 0, 5)), served{server: want, told: tellsInstalled(6, of), done: donesOf(13, 13)})
			continue
		}
		wantServe(t, s, hears(installs(6, of, 0, 5)), served{server: stagedAt(want, of, 5), told: tellsStage(6, of, 5), done: donesOf(13, 13)})
		last, acts := installed(t, s, of, logOf(14, 3))
		wantServe(t, s, hears(installs(6, of, 0, len(plainSnap(of)))), served{server: last, acts: acts, told: tellsInstalled(6, of)})
	}
}

// The log behind the snapshot stays, when it goes on from it.
func TestSnapshotsWithinTheLog(t *testing.T) {
	for index := 14; index <= 18; index++ {
		for term := 0; term <= 6; term++ {
			of := snapOfLength(t, index, term, []int{2, 3}, 60)
			l := logOf(index, term)
			if term == 5 && index <= 17 {
				l.Entries = serverLog().Entries[index-10:]
			}
			s := appliedTo(theFollower(), 11)
			want, acts := installed(t, s, of, l)
			wantServe(t, s, hears(installs(6, of, 0, 60)), served{server: want, acts: acts, told: tellsInstalled(6, of)})
		}
	}
}

// Whoever leads or stands follows, and its Term is on the disk ahead of the
// snapshot.
func TestSnapshotsOfAGreaterTerm(t *testing.T) {
	of := snapOfLength(t, 20, 8, []int{1, 2, 3, 4}, 59)
	for _, s := range eachServer() {
		s.Node.Lead = 3
		head := []impl.Act{adds("j7", framed(headOf(9, 0))), keeps("j7")}
		risen := changedServer(s, func(s *impl.Server) { s.Node.Term, s.Node.Vote = 9, 0 })
		want, acts := installed(t, risen, of, logOf(20, 8), head...)
		wantServe(t, s, hears(installs(9, of, 0, 59)), served{server: want, acts: acts, told: tellsInstalled(9, of)})
		part := stagedAt(heard(appliedTo(risen, 13)), of, 7)
		part = behindActs(t, part, 7, head...)
		wantServe(t, s, hears(installs(9, of, 0, 7)), served{server: part, acts: head, told: tellsStage(9, of, 7), done: donesOf(s.Applied+1, 13)})
	}
}

func TestSnapshotsOfALesserTerm(t *testing.T) {
	of := farSnap(t, 130)
	for _, s := range eachServer() {
		for term := range s.Node.Term {
			for _, s := range []impl.Server{s, stagedAt(s, of, 60)} {
				want := appliedTo(s, 13)
				for _, m := range []impl.Message{installs(term, of, 0, 60), installs(term, of, 60, 120), installs(term, of, 120, 130), installs(term, snap(5, 1, []int{1}, ""), 0, 5)} {
					reply := tellsInstall(1, 2, s.Node.Term, false, m.Index, 0)
					wantServe(t, s, hears(m), served{server: want, told: []impl.Message{reply}, done: donesOf(s.Applied+1, 13)})
				}
			}
		}
	}
}

// wholeOf is a text in one message, which is about the snapshot.
func wholeOf(of impl.Snap, text string) impl.Message {
	m := installs(6, of, 0, len(plainSnap(of)))
	m.Data, m.Last = text, true
	return m
}

func TestTextsThatAreNoSnapshot(t *testing.T) {
	of := snap(20, 5, []int{1, 2, 4}, plainKeepText(impl.KeepNew()))
	text := plainSnap(of)
	s := theFollower()
	want, acts := installed(t, s, of, logOf(20, 5))
	wantServe(t, s, hears(wholeOf(of, text)), served{server: want, acts: acts, told: tellsInstalled(6, of)})
	texts := []string{
		"", "x", text[1:], text[:len(text)-1], text + "\x00", turnedTo(text, 3, 9), plainSeal("\x94\x00" + text[1:len(text)-4]),
		plainSnap(snap(21, 5, of.Conf, of.Body)), plainSnap(snap(19, 5, of.Conf, of.Body)), plainSnap(snap(20, 4, of.Conf, of.Body)), plainSnap(snap(20, 6, of.Conf, of.Body)),
		plainSnap(snap(20, 5, []int{1, 2}, of.Body)), plainSnap(snap(20, 5, []int{1, 2, 3}, of.Body)), plainSnap(snap(20, 5, []int{1, 2, 3, 4}, of.Body)),
		plainSnap(snap(20, 5, of.Conf, "")), plainSnap(snap(20, 5, of.Conf, of.Body+"\x00")), plainSnap(snap(20, 5, of.Conf, of.Body[1:])), plainSnap(snap(20, 5, of.Conf, "\x00\x01\x04root\x00\x00")),
	}
	for _, text := range texts {
		empty := stagedAt(heard(s), of, 0)
		wantServe(t, s, hears(wholeOf(of, text)), served{server: empty, told: tellsStage(6, of, 0)})
		cut := min(len(text), 11)
		half := changedServer(empty, func(s *impl.Server) { s.Stage = text[:cut] })
		m := wholeOf(of, text[cut:])
		m.Commit = cut
		wantServe(t, half, hears(m), served{server: empty, told: tellsStage(6, of, 0)})
		// And begun anew it comes.
		last, acts := installed(t, empty, of, logOf(20, 5))
		wantServe(t, empty, hears(wholeOf(of, plainSnap(of))), served{server: last, acts: acts, told: tellsInstalled(6, of)})
	}
}

// A chunk may be empty: it changes nothing, or is the last one.
func TestChunksWithoutData(t *testing.T) {
	of := farSnap(t, 130)
	for _, length := range []int{0, 60, 130} {
		s := stagedAt(heard(theFollower()), of, length)
		m := asksInstall(2, 1, 6, 20, 5, length, 1, 2, 4)
		wantServe(t, s, hears(m), served{server: s, told: tellsStage(6, of, length)})
		m.Last = true
		if length < 130 {
			wantServe(t, s, hears(m), served{server: stagedAt(s, of, 0), told: tellsStage(6, of, 0)})
			continue
		}
		want, acts := installed(t, s, of, logOf(20, 5))
		wantServe(t, s, hears(m), served{server: want, acts: acts, told: tellsInstalled(6, of)})
	}
}

// A chunk comes behind Stage, also where that is longer than MaxText then.
func TestChunksUpToTheGreatestStage(t *testing.T) {
	long := mixedBytes(20000)
	for _, length := range []int{19940, 19950, 20000} {
		for _, more := range []int{0, 1, 10, 11, 49, 50, 51, 60} {
			s := changedServer(heard(theFollower()), func(s *impl.Server) { s.Stage, s.StageAt, s.StageTerm = long[:length], 20, 5 })
			m := asksInstall(2, 1, 6, 20, 5, length, 1, 2, 4)
			m.Data = mixedBytes(60)[:more]
			want := changedServer(s, func(s *impl.Server) { s.Stage += m.Data })
			wantServe(t, s, hears(m), served{server: want, told: []impl.Message{tellsInstall(1, 2, 6, false, 20, length+more)}})
			wantServerOk(t, want, length+more <= 20000)
			m.Last = true
			want = changedServer(s, func(s *impl.Server) { s.Stage = "" })
			wantServe(t, s, hears(m), served{server: want, told: []impl.Message{tellsInstall(1, 2, 6, false, 20, 0)}})
		}
	}
}

// A snapshot is installed whatever its Term; the server is right where that is
// not above its own.
func TestSnapshotsOfATermThatIsNotYet(t *testing.T) {
	for _, term := range []int{0, 5, 6, 7, 100000} {
		of := snapOfLength(t, 20, term, []int{1, 2}, 60)
		s := heard(theFollower())
		want, acts := installed(t, s, of, logOf(20, term))
		wantServe(t, s, hears(installs(6, of, 0, 60)), served{server: want, acts: acts, told: tellsInstalled(6, of)})
		wantServerOk(t, want, term <= 6)
		checkServe(t, theLeader(), hears(installs(6, of, 0, 60)))
	}
}

// Wherever the power goes, and whatever it leaves.
func TestEachCutOfServe(t *testing.T) {
	n := changedNode(serverNodes()[0], func(n *impl.Node) { n.Clock = 4 })
	short, long := serverOf(n, serverKeep(), 13), serverOf(n, serverKeep(), 13)
	long.Disk.Files[1] = kept("j7", padded(t, long.Journal, 401))
	of := snapOfLength(t, 20, 5, []int{1, 2}, 60)
	inputs := []impl.Input{
		ticks(9), snaps(), hears(asksVote(2, 1, 7, 30, 5)), hears(installs(6, of, 0, 60)), hears(installs(7, of, 0, 60)), hears(asksAppend(2, 1, 6, 17, 5, 20, none(6), command(6, mixedBytes(40)))), hears(asksAppend(2, 1, 7, 13, 3, 20, none(6), none(6), none(7))), hears(asksAppend(2, 1, 7, 14, 5, 15, conf(6, "\x01\x02"))),
	}
	for _, s := range []impl.Server{short, long} {
		for _, in := range inputs {
			got, ok := checkServe(t, s, in)
			if !ok || len(got.acts) < 2 {
				t.Errorf("%s\nis %v, %v", toldServe(s, in), ok, got.acts)
			}
			eachCut(t, s.Disk, got.acts, func(whole int, left impl.Disk) { wantUpAgain(t, s, got, left) })
		}
	}
}

// No input needs more acts than these, which are far from MaxActs.
func TestTheMostActs(t *testing.T) {
	of := snap(1000000, 99999, []int{1, 2, 3, 4}, plainKeepText(fullKeep()))
	n := changedNode(serverNodes()[0], func(n *impl.Node) { n.Log = logOf(10, 2, unlikeEntries(40, 3)...) })
	text := plainSnap(of)
	s := stagedAt(serverOf(n, serverKeep(), 13), of, len(text)-3)
	got, ok := checkServe(t, s, hears(installs(100000, of, len(text)-3, len(text))))
	if !ok || len(got.acts) != 19 || got.server.Applied != 1000000 || got.server.Journal.Number != 9 || len(text) != 440 {
		t.Errorf("%d acts are done, and %d is applied", len(got.acts), got.server.Applied)
	}
	eachCut(t, s.Disk, got.acts, func(whole int, left impl.Disk) { wantUpAgain(t, s, got, left) })
}

// Where a file can't follow, or the disk has no room, the input is refused.
func TestServersThatCanNotWrite(t *testing.T) {
	n := serverNodes()[0]
	last := serverOf(n, serverKeep(), 13)
	last.Journal.Number = 999
	last.Disk = serverDisk(last.Journal, snapOfNode(n, serverKeep()))
	long := changedServer(last, func(s *impl.Server) { s.Disk.Files[1] = kept("j999", padded(t, s.Journal, 401)) })
	full := changedServer(theFollower(), func(s *impl.Server) { s.Disk = fullDisk(s.Disk, 30) })
	of := snapOfLength(t, 20, 5, []int{1, 2}, 60)
	for _, s := range []impl.Server{last, long, full} {
		wantServerOk(t, s, true)
		_, ok := checkServe(t, s, ticks(9))
		_, hasVoted := checkServe(t, s, hears(asksVote(2, 1, 7, 30, 6)))
		if isLong := sameServer(s, long); ok == isLong || hasVoted == isLong {
			t.Errorf("%s\nis %v and %v", toldServer(s), ok, hasVoted)
		}
		wantNoServe(t, s, snaps())
		wantNoServe(t, s, hears(installs(6, of, 0, 60)))
	}
	room := changedServer(theFollower(), func(s *impl.Server) { s.Disk = fullDisk(s.Disk, 29) })
	for _, in := range []impl.Input{ticks(9), snaps(), hears(installs(6, of, 0, 60))} {
		if _, ok := checkServe(t, room, in); !ok {
			t.Errorf("with 29 files the Kind %d is refused", in.Kind)
		}
	}
}

func TestSnapOf(t *testing.T) {
	want := func(s impl.Server, of impl.Snap, there bool) {
		t.Helper()
		if got, ok := impl.SnapOf(s); ok != there || !sameSnap(got, of) {
			t.Errorf("SnapOf of %.2000s is %v, %v; want %v", toldServer(s), got, ok, of)
		}
	}
	want(impl.Server{}, impl.Snap{}, false)
	for _, s := range eachServer() {
		want(s, baseSnap(), true)
		want(changedServer(s, func(s *impl.Server) { s.Disk.Files = s.Disk.Files[:2] }), impl.Snap{}, false)
		want(changedServer(s, func(s *impl.Server) { s.Node, s.Applied = impl.Node{}, -5 }), baseSnap(), true)
	}
	want(impl.Server{Disk: diskOf(snapFile(10), snapFile(11), kept("s12", "x"), snapFile(9))}, snapAt(11), true)
	want(impl.Server{Disk: diskOf(snapFile(11), snapFile(10))}, impl.Snap{}, false)
}

// fairDraws are those of drawsFrom for long lives: what is drawn hangs less on
// what was drawn a few draws ago.
func fairDraws(seed uint64) func(int) int { return rand.New(rand.NewPCG(seed, seed)).IntN }

// drawnCommands has commands in the place of what the entries of a node have.
func drawnCommands(draw func(int) int, n impl.Node, k impl.Keep) impl.Node {
	n = copyOfNode(n)
	for at, e := range n.Log.Entries {
		if e.Kind == impl.EntryCommand && draw(4) > 0 {
			n.Log.Entries[at].Data = plainCommandText(drawnCommand(draw, k))
		}
		k, _ = plainFold(k, n.Log.Entries[at:at+1], n.Log.Start+1+at)
	}
	return n
}

// drawnServer is right, of any Role.
func drawnServer(draw func(int) int) impl.Server {
	k := []impl.Keep{impl.KeepNew(), threeKeep(), serverKeep(), fullKeep(), keepOfBytes(draw(161)), drawnKeep(draw)}[draw(6)]
	n := drawnCommands(draw, drawnNode(draw), k)
	s := serverOf(n, k, n.Log.Start+draw(n.Commit-n.Log.Start+1))
	if draw(3) == 0 {
		s.Stage, s.StageAt, s.StageTerm = drawnBytes(draw, draw(70)), draw(20), draw(4)
	}
	return s
}

// drawnSnapFor is mostly one that the node lacks.
func drawnSnapFor(draw func(int) int, n impl.Node) impl.Snap {
	index := min(max(n.Commit+draw(9)-2, 0), 1000000)
	term := max(0, impl.LogTerm(n.Log, index))
	if term == 0 || draw(4) == 0 {
		term = draw(n.Term + 1)
	}
	k := []impl.Keep{impl.KeepNew(), threeKeep(), keepOfBytes(draw(161)), drawnKeep(draw)}[draw(4)]
	return snap(index, term, drawnConf(draw), plainKeepText(k))
}

// drawnChunk goes on where the server is, mostly.
func drawnChunk(draw func(int) int, s impl.Server, of impl.Snap) impl.Message {
	text, from := plainSnap(of), 0
	if s.StageAt == of.Index && s.StageTerm == of.Term {
		from = len(s.Stage)
	}
	if draw(8) == 0 {
		from += draw(130) - 65
	}
	from = min(max(from, 0), len(text))
	m := installs(s.Node.Term, of, from, min(len(text), from+60-draw(8)*draw(2)))
	m.From, m.To = 1+(s.Node.Id+draw(3))%4, s.Node.Id
	switch draw(12) {
	case 0:
		m.Term = max(0, m.Term-1)
	case 1:
		m.Term = min(100000, m.Term+1)
	case 2:
		m.Last = !m.Last
	case 3:
		m.Conf = drawnConf(draw)
	case 4:
		m.Data = m.Data[:draw(len(m.Data)+1)]
	}
	return m
}

// drawnInput is mostly one that the node takes.
func drawnInput(draw func(int) int, s impl.Server, of impl.Snap) impl.Input {
	switch draw(12) {
	case 0:
		return ticks(1 + draw(6))
	case 1:
		return ticks(draw(23))
	case 2:
		return snaps()
	case 3, 4:
		return proposes(impl.EntryCommand, plainCommandText(drawnCommand(draw, s.Keep)))
	case 5:
		return proposes(draw(5), bytesOf(drawnConf(draw)))
	case 6, 7, 8:
		return hears(drawnChunk(draw, s, of))
	}
	return hears(drawnMessageTo(draw, s.Node))
}

func TestDrawnServersAndInputs(t *testing.T) {
	draw, served, wrote, applied, whole := fairDraws(190), 0, 0, 0, 0
	for range 4000 {
		s := drawnServer(draw)
		wantServerOk(t, s, true)
		of := drawnSnapFor(draw, s.Node)
		if draw(2) == 0 {
			s = stagedAt(s, of, max(0, len(plainSnap(of))-draw(70)))
		}
		for range 3 {
			in := drawnInput(draw, s, of)
			got, ok := checkServe(t, s, in)
			if ok && !isHeardOfNone(in) {
				checkDrawnCuts(t, draw, s, got, 2)
				served, wrote, applied = served+1, wrote+len(got.acts), applied+len(got.done)
			}
			if ok && in.Kind == impl.InMessage && got.server.Node.Log.Start > s.Node.Log.Start {
				whole++
			}
			if t.Failed() {
				return
			}
		}
	}
	if served < 6000 || wrote < 6000 || applied < 6000 || whole < 300 {
		t.Errorf("%d inputs alone were served, with %d acts; %d entries were applied, %d snapshots installed", served, wrote, applied, whole)
	}
}

// One server hears for long whatever right inputs come, and falls between.
func TestDrawnLivesOfOneServer(t *testing.T) {
	draw, installs, falls := fairDraws(191), 0, 0
	for life := range 60 {
		d, _ := impl.FormatDisk(drawnConf(draw))
		s, _, _ := impl.Boot(1+life%4, d, 1+draw(5))
		of := drawnSnapFor(draw, s.Node)
		for range 150 {
			if of.Index <= s.Node.Commit || draw(30) == 0 {
				of = drawnSnapFor(draw, s.Node)
			}
			in := drawnInput(draw, s, of)
			got, ok := checkServe(t, s, in)
			if !ok || isHeardOfNone(in) {
				continue
			}
			checkDrawnCuts(t, draw, s, got, 1)
			if in.Kind == impl.InMessage && got.server.Node.Log.Start > s.Node.Log.Start {
				installs++
			}
			s = got.server
			if draw(25) == 0 {
				s, _, _ = impl.Boot(s.Node.Id, s.Disk, 1+draw(9))
				falls++
			}
			if t.Failed() {
				t.Fatalf("behind %s", toldServer(s))
			}
		}
	}
	if installs < 300 || falls < 100 {
		t.Errorf("%d snapshots alone were installed, in %d falls", installs, falls)
	}
}

// A ward is some servers and what is on its way between them.
type ward struct {
	t       *testing.T
	draw    func(int) int
	servers []impl.Server
	down    []bool
	net     []impl.Message
	leaders map[int]int
	agreed  map[int]impl.Entry
	replies map[int]string
}

func wardOf(t *testing.T, draw func(int) int, count int, conf []int) *ward {
	t.Helper()
	w := &ward{t: t, draw: draw, down: make([]bool, count), leaders: map[int]int{}, agreed: map[int]impl.Entry{}, replies: map[int]string{}}
	d, ok := impl.FormatDisk(conf)
	for id := 1; id <= count; id++ {
		s, acts, code := impl.Boot(id, d, 2+3*id)
		if !ok || code != 0 || len(acts) > 0 {
			t.Fatalf("%d does not come up", id)
		}
		w.servers = append(w.servers, s)
	}
	return w
}

// serve is false when nothing of the input happens.
func (w *ward) serve(id int, in impl.Input, isCut bool) bool {
	w.t.Helper()
	s := w.servers[id-1]
	if w.down[id-1] {
		return false
	}
	got, ok := checkServe(w.t, s, in)
	if !ok {
		return false
	}
	if isCut {
		left := []int{}
		for range 4 {
			left = append(left, w.draw(500))
		}
		cut, _ := impl.CutActs(s.Disk, got.acts, w.draw(len(got.acts)+1), left)
		wantUpAgain(w.t, s, got, cut)
		w.down[id-1], w.servers[id-1].Disk = true, cut
		return true
	}
	w.servers[id-1] = got.server
	w.net = append(w.net, got.told...)
	w.look(got)
	return true
}

// look holds what is applied against what was applied elsewhere, and ahead.
func (w *ward) look(got served) {
	w.t.Helper()
	n := got.server.Node
	if n.Role == impl.RoleLead {
		if other, there := w.leaders[n.Term]; there && other != n.Id {
			w.t.Errorf("%d and %d lead in the Term %d", other, n.Id, n.Term)
		}
		w.leaders[n.Term] = n.Id
	}
	for _, d := range got.done {
		if was, there := w.agreed[d.Index]; there && (was != d.Entry || w.replies[d.Index] != d.Reply) {
			w.t.Errorf("%v and %v are done at %d, and replied %q and %q", was, d.Entry, d.Index, w.replies[d.Index], d.Reply)
		}
		w.agreed[d.Index], w.replies[d.Index] = d.Entry, d.Reply
	}
	if want := w.keepAt(got.server.Applied); !sameKeep(got.server.Keep, want) {
		w.t.Errorf("the keep of %d at %d is\n%swant\n%s", n.Id, got.server.Applied, toldKeep(got.server.Keep), toldKeep(want))
	}
}

// keepAt is what all that was agreed on up to an index makes.
func (w *ward) keepAt(applied int) impl.Keep {
	list := []impl.Entry{}
	for index := 1; index <= applied; index++ {
		e, there := w.agreed[index]
		if !there {
			w.t.Errorf("nobody has done %d", index)
		}
		list = append(list, e)
	}
	keep, _ := plainFold(impl.KeepNew(), list, 1)
	return keep
}

func (w *ward) deliver(at int, isCut bool) {
	w.t.Helper()
	m := w.net[at]
	w.net = slices.Delete(w.net, at, at+1)
	w.serve(m.To, hears(m), isCut)
}

func (w *ward) bootUp(id, limit int) {
	w.t.Helper()
	if !w.down[id-1] {
		return
	}
	s, _, code := impl.Boot(id, w.servers[id-1].Disk, limit)
	if code != 0 {
		w.t.Errorf("%d does not come up again: %d", id, code)
	}
	w.servers[id-1], w.down[id-1] = s, false
}

// calm ticks all servers, and delivers all that is told, in order.
func (w *ward) calm(rounds int) {
	w.t.Helper()
	for range rounds {
		for id := range w.servers {
			w.serve(id+1, ticks(5+4*id), false)
		}
		for range 60 {
			if len(w.net) > 0 {
				w.deliver(0, false)
			}
		}
	}
}

func (w *ward) leads() int {
	return slices.IndexFunc(w.servers, func(s impl.Server) bool { return s.Node.Role == impl.RoleLead && !w.down[s.Node.Id-1] }) + 1
}

// wantAlike: all have applied all, and have the same keep.
func (w *ward) wantAlike(least int) {
	w.t.Helper()
	for _, s := range w.servers {
		if s.Applied < least || s.Applied != w.servers[0].Applied || !sameKeep(s.Keep, w.servers[0].Keep) {
			w.t.Errorf("%d has applied %d: %s", s.Node.Id, s.Applied, toldServer(s))
		}
	}
}

func TestACalmWard(t *testing.T) {
	for count := 1; count <= 4; count++ {
		w := wardOf(t, nil, count, []int{1, 2, 3, 4}[:count])
		w.calm(12)
		if w.leads() == 0 {
			t.Fatalf("none of %d leads", count)
		}
		for _, x := range []impl.Command{askOpen(), askPut(2, 1, "a", "x"), askPut(2, 2, "b", mixedBytes(20)), askGet(2, 3, "a"), askPut(2, 3, "a", "y"), askSwap(2, 4, "a", "z", 3), askOpen(), askDrop(8, 1, "b")} {
			if !w.serve(w.leads(), proposes(impl.EntryCommand, plainCommandText(x)), false) {
				t.Errorf("%v is refused", x)
			}
		}
		w.calm(12)
		w.wantAlike(9)
		replies := []string{"", "open 2", "put 3", "put 4", "is 3 x", "is 3 x", "put 7", "open 8", "drop"}
		for at, reply := range replies {
			if w.replies[at+1] != reply {
				t.Errorf("at %d the reply is %q; want %q", at+1, w.replies[at+1], reply)
			}
		}
	}
}

// One that was down while the others cut their logs comes by their snapshot, in
// chunks, which may be lost, doubled and turned.
func TestAWardWhoseSnapshotIsSent(t *testing.T) {
	for _, isLossy := range []bool{false, true} {
		w := wardOf(t, fairDraws(192), 3, []int{1, 2, 3})
		w.calm(9)
		leads := w.leads()
		lacks := leads%3 + 1
		w.down[lacks-1] = true
		w.serve(leads, proposes(impl.EntryCommand, plainCommandText(askOpen())), false)
		for seq, key := range []string{"a", "b", "c", "d", "e", "f"} {
			w.serve(leads, proposes(impl.EntryCommand, plainCommandText(askPut(2, seq+1, key, mixedBytes(20)))), false)
			w.calm(2)
		}
		w.serve(leads, snaps(), false)
		if of, _ := impl.SnapOf(w.servers[leads-1]); of.Index != 8 || len(plainSnap(of)) <= 120 {
			t.Fatalf("the snapshot is %v", of)
		}
		w.bootUp(lacks, 20)
		for range 60 {
			if !isLossy {
				break
			}
			w.serve(leads, ticks(9), false)
			for range 4 {
				at := w.draw(max(1, len(w.net)))
				switch {
				case len(w.net) == 0:
				case w.draw(4) == 0:
					w.net = slices.Delete(w.net, at, at+1)
				case w.draw(4) == 0:
					w.net = append(w.net, w.net[at])
				default:
					w.deliver(at, false)
				}
			}
		}
		w.calm(12)
		w.wantAlike(8)
		if n := w.servers[lacks-1].Node; n.Log.Start != 8 {
			t.Errorf("%d was sent no snapshot: %s", lacks, toldNode(n))
		}
	}
}

// act does one thing of a drawn life.
func (w *ward) act() {
	w.t.Helper()
	count := len(w.servers)
	id, at, isCut := 1+w.draw(count), w.draw(max(1, min(5, len(w.net)))), w.draw(60) == 0
	if leads := w.leads(); leads > 0 && w.draw(3) > 0 {
		id = leads
	}
	switch act := w.draw(40); {
	case act < 8:
		w.serve(id, ticks(3+w.draw(9)), isCut)
	case act < 12:
		keep := w.servers[id-1].Keep
		w.serve(id, proposes(impl.EntryCommand, plainCommandText(drawnCommand(w.draw, keep))), isCut)
	case act == 12:
		if conf := drawnConf(w.draw); conf[len(conf)-1] <= count {
			w.serve(id, proposes(impl.EntryConf, bytesOf(conf)), isCut)
		}
	case act == 13:
		w.serve(id, snaps(), isCut)
	case act < 16:
		w.bootUp(1+w.draw(count), 1+w.draw(9))
	case len(w.net) == 0:
		w.serve(1+w.draw(count), ticks(3+w.draw(9)), isCut)
	case act == 16:
		w.net = slices.Delete(w.net, at, at+1)
	case act == 17:
		w.net = append(w.net, w.net[at])
	default:
		w.deliver(at, isCut)
	}
}

// isAlike tells whether one leads, and all of its conf have all that it has.
func (w *ward) isAlike() bool {
	if w.leads() == 0 {
		return false
	}
	leads := w.servers[w.leads()-1]
	lacks := func(id int) bool {
		s := w.servers[id-1]
		return s.Applied != plainLast(leads.Node) || !sameKeep(s.Keep, leads.Keep)
	}
	return !slices.ContainsFunc(impl.ConfOf(leads.Node), lacks)
}

// Whatever is lost, told twice and turned, and whoever falls: no Term has two
// who lead, nothing is applied in two ways, and in the end the others have all
// that one who leads has. (But where one that is taken out of the conf is the
// only one to know it, none leads any more.)
func TestDrawnWards(t *testing.T) {
	draw, agreed, terms, cut, alike := fairDraws(193), 0, 0, 0, 0
	for range 40 {
		count := 2 + draw(3)
		w := wardOf(t, draw, count, []int{1, 2, 3, 4}[:1+draw(count)])
		for range 600 {
			w.act()
			if t.Failed() {
				return
			}
		}
		agreed, terms = agreed+len(w.agreed), terms+len(w.leaders)
		for _, s := range w.servers {
			if s.Node.Log.Start > 0 {
				cut++
			}
		}
		for id := range count {
			w.bootUp(id+1, 5+4*id)
			w.serve(id+1, snaps(), false)
		}
		for round := 0; round < 80 && !w.isAlike(); round++ {
			w.calm(1)
		}
		if w.isAlike() {
			alike++
		}
	}
	if agreed < 500 || terms < 100 || cut < 50 || alike < 30 {
		t.Errorf("%d entries in %d Terms alone were agreed on; %d logs were cut, %d wards were alike in the end", agreed, terms, cut, alike)
	}
}

// spansOfServer are where its lists lie, and its texts.
func spansOfServer(s impl.Server) ([]span, []string) {
	lists := []span{spanOf(s.Node.Conf), spanOf(s.Node.Votes), spanOf(s.Node.Peers), spanOf(s.Node.Log.Entries), spanOf(s.Disk.Files), spanOf(s.Journal.Log.Entries), spanOf(s.Keep.Sessions), spanOf(s.Keep.Items)}
	texts := append(textsOfKeep(s.Keep), s.Stage)
	for _, e := range slices.Concat(s.Node.Log.Entries, s.Journal.Log.Entries) {
		texts = append(texts, e.Data)
	}
	for _, f := range s.Disk.Files {
		texts = append(texts, f.Name, f.Text)
	}
	return lists, texts
}

func spansOfServed(x served) ([]span, []string) {
	lists, texts := spansOfServer(x.server)
	lists = append(lists, spanOf(x.acts), spanOf(x.told), spanOf(x.done))
	for _, m := range x.told {
		lists = append(lists, spanOf(m.Entries), spanOf(m.Conf))
		texts = append(texts, textsOfMessage(m)...)
	}
	for _, a := range x.acts {
		texts = append(texts, a.Name, a.Text, a.To)
	}
	for _, d := range x.done {
		texts = append(texts, d.Entry.Data, d.Reply)
	}
	return lists, texts
}

// wantTextsApart: no text of one list of an answer lies in another one.
func wantTextsApart(t *testing.T, x served) {
	t.Helper()
	_, ahead := spansOfServer(x.server)
	for _, m := range x.told {
		wantNewTexts(t, textsOfMessage(m), ahead...)
		ahead = append(ahead, textsOfMessage(m)...)
	}
	for _, d := range x.done {
		wantNewTexts(t, []string{d.Entry.Data}, ahead...)
	}
	for _, a := range x.acts {
		wantNewTexts(t, []string{a.Name, a.Text, a.To}, ahead...)
	}
}

// roomyServer has spare room behind its lists, which are all in the second.
func roomyServer(s impl.Server) (impl.Server, impl.Server) {
	cut, whole := copyOfServer(s), copyOfServer(s)
	cut.Node, whole.Node = roomyNode(s.Node)
	cut.Keep, whole.Keep = roomyKeep(s.Keep)
	cut.Disk, whole.Disk.Files = roomy(copyOfDisk(s.Disk))
	cut.Journal.Log, whole.Journal.Log.Entries = roomyLog(s.Journal.Log)
	whole.Stage = strings.Clone(s.Stage)
	cut.Stage = whole.Stage
	return cut, whole
}

// checkServerMemory makes each call of the chapter, and looks at what it wrote,
// and where its answers lie.
func checkServerMemory(t *testing.T, one impl.Server, in impl.Input) {
	t.Helper()
	s, whole := roomyServer(one)
	m, wholeMessage := roomyMessage(in.Message)
	in.Message = m
	in.Data = strings.Clone(in.Data)
	was, wasMessage := toldServer(whole), toldMessage(wholeMessage)
	given, texts := spansOfServer(whole)
	given = append(given, spanOf(wholeMessage.Entries), spanOf(wholeMessage.Conf))
	texts = slices.Concat(texts, textsOfMessage(m), textsOfMessage(wholeMessage), []string{in.Data})
	hold := func(call string, answer served) {
		t.Helper()
		lists, answered := spansOfServed(answer)
		wantSpansApart(t, call+" of "+toldServe(one, in), lists, given...)
		wantNewTexts(t, answered, texts...)
		wantTextsApart(t, answer)
		if toldServer(whole) != was || toldMessage(wholeMessage) != wasMessage {
			t.Fatalf("%s of %s: an argument was written into", call, toldServe(one, in))
		}
	}
	got, _ := serveOf(s, in)
	hold("Serve", got)
	up, acts, _ := impl.Boot(s.Node.Id, s.Disk, 5)
	hold("Boot", served{server: up, acts: acts})
	of, _ := impl.SnapOf(s)
	hold("SnapOf", served{told: []impl.Message{{Conf: of.Conf, Data: of.Body}}})
	d, _ := impl.FormatDisk(s.Node.Conf)
	hold("FormatDisk", served{server: impl.Server{Disk: d}})
	impl.ServerOk(s)
	hold("ServerOk", served{})
}

func TestServersAreNewAndNotWrittenInto(t *testing.T) {
	draw := fairDraws(194)
	for range 600 {
		s := drawnServer(draw)
		of := drawnSnapFor(draw, s.Node)
		s = stagedAt(s, of, max(0, len(plainSnap(of))-draw(70)))
		for range 2 {
			checkServerMemory(t, s, drawnInput(draw, s, of))
		}
	}
	of := farSnap(t, 60)
	for _, s := range append(eachServer(), sendsOf(baseSnap(), 0)) {
		for _, in := range []impl.Input{ticks(5), snaps(), hears(installs(9, of, 0, 30)), hears(installs(9, of, 0, 60)), hears(asksVote(2, 1, 7, 30, 6)), proposes(impl.EntryCommand, mixedBytes(20)), {}} {
			checkServerMemory(t, s, in)
			for _, change := range wrongChanges() {
				if wrong := changedServer(s, change); len(wrong.Node.Log.Entries) < 100 {
					checkServerMemory(t, wrong, in)
				}
			}
		}
		// A disk that Boot must clear.
		s.Disk = besideOf(s.Disk, kept("j6", "x"), kept("s+", "x"))
		s.Disk.Files[2].Text += "x"
		s.Disk.Files[2].Kept++
		checkServerMemory(t, s, ticks(5))
	}
}

// What was answered ahead says nothing of what is answered.
func TestServersKeepNothing(t *testing.T) {
	of := farSnap(t, 60)
	for range 3 {
		for _, s := range eachServer() {
			wantNoServe(t, s, impl.Input{})
			for _, in := range []impl.Input{ticks(5), snaps(), hears(installs(9, of, 0, 60)), hears(installs(9, of, 0, 30)), proposes(impl.EntryCommand, "x")} {
				checkServe(t, s, in)
				wantNoServe(t, s, hears(tellsVote(2, 3, 9, true)))
			}
			wantServerOk(t, s, true)
			wantNoBoot(t, 1, impl.Disk{}, 5, 1)
			wantNoBoot(t, 5, s.Disk, 5, 3)
			wantServerOk(t, impl.Server{}, false)
		}
	}
}

// No call panics, whatever it is given.
func TestServersOfWhateverIsGiven(t *testing.T) {
	draw, right := fairDraws(195), 0
	numbers := slices.Concat(oddInts(), sevenBitEdges(), []int{0, 1, 2, 3, 4, 10, 13})
	number := func() int { return numbers[draw(len(numbers))] }
	changes := append(wrongChanges(), rightChanges()...)
	servers := eachServer()
	for range 3000 {
		s := copyOfServer(servers[draw(len(servers))])
		for range draw(3) {
			if at := draw(len(changes) + 8); at < len(changes) && len(s.Disk.Files) == 4 && len(s.Node.Log.Entries) == 7 && len(s.Journal.Log.Entries) == 7 && s.Journal.Log.Start == 10 && len(s.Keep.Sessions) == 1 && len(s.Keep.Items) == 2 {
				changes[at](&s)
			} else if len(s.Disk.Files) > 0 {
				f := &s.Disk.Files[draw(len(s.Disk.Files))]
				f.Text = drawnSpoilt(draw, f.Text)
				f.Kept = []int{len(f.Text), number()}[draw(2)]
				s.Applied, s.StageAt = number(), number()
			}
		}
		isRight := plainServerOk(s)
		wantServerOk(t, s, isRight)
		in := impl.Input{Kind: []int{1, 2, 3, 4, number()}[draw(5)], Limit: number(), Message: drawnMessage(draw), Entry: draw(6) - 1, Data: drawnBytes(draw, draw(130))}
		if draw(2) == 0 {
			in.Message.To, in.Message.Kind = s.Node.Id, number()
		}
		if isRight {
			right++
			checkServe(t, s, in)
		} else {
			wantNoServe(t, s, in)
		}
		impl.Boot(number(), s.Disk, number())
		impl.SnapOf(s)
		impl.FormatDisk([]int{number(), number()})
		if t.Failed() {
			return
		}
	}
	if right < 500 || right > 2500 {
		t.Errorf("%d of them are right", right)
	}
}
