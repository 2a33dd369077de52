package tests

import (
	"slices"
	"sort"
	"strings"
	"testing"
	"unsafe"

	"loop.example/g00232/impl"
)

func file(name, text string, kept int) impl.File {
	return impl.File{Name: name, Text: text, Kept: kept}
}

func diskOf(files ...impl.File) impl.Disk { return impl.Disk{Files: files} }

func sameDisk(a, b impl.Disk) bool { return slices.Equal(a.Files, b.Files) }

// threeFiles has one file that is kept in part, one that is kept, and one of
// which nothing is.
func threeFiles() impl.Disk {
	return diskOf(file("b", "12345", 2), file("d", "abc", 3), file("f", "xyz", 0))
}

// manyFiles are so many right files; their names ascend.
func manyFiles(count int) impl.Disk {
	var d impl.Disk
	for at := 0; at < count; at++ {
		name := string([]byte{'m', byte('a' + at/10), byte('0' + at%10)})
		d.Files = append(d.Files, file(name, "text", at%5))
	}
	return d
}

// wrongDisks are not right, each by one thing alone.
func wrongDisks() []impl.Disk {
	long := strings.Repeat("x", impl.MaxText+1)
	return []impl.Disk{
		manyFiles(impl.MaxFiles + 1),
		diskOf(file("", "abc", 3), file("b", "x", 1)),
		diskOf(file("b", "x", 1), file("ninebytes", "abc", 3)),
		diskOf(file("b", "x", 1), file("b", "x", 1)),
		diskOf(file("b", "x", 1), file("b", "y", 1), file("c", "z", 1)),
		diskOf(file("c", "x", 1), file("b", "y", 1)),
		diskOf(file("a", "", 0), file("b", "x", 1), file("aa", "y", 1)),
		diskOf(file("b", "x", 1), file("B", "y", 1)),
		diskOf(file("b", "x", 1), file("z", long, 0)),
		diskOf(file("b", "x", 1), file("z", long, len(long))),
		diskOf(file("b", "x", -1)),
		diskOf(file("b", "x", 2)),
		diskOf(file("b", "", 1)),
		diskOf(file("b", "x", 1), file("c", "abc", 4)),
		diskOf(file("b", "x", 1), file("c", "abc", -4)),
	}
}

func rightDisks() []impl.Disk {
	full := strings.Repeat("x", impl.MaxText)
	return []impl.Disk{
		{},
		{Files: []impl.File{}},
		threeFiles(),
		manyFiles(1),
		manyFiles(impl.MaxFiles - 1),
		manyFiles(impl.MaxFiles),
		diskOf(file("a", "", 0)),
		diskOf(file("\x00", "x", 0)),
		diskOf(file("\xff\xff\xff\xff\xff\xff\xff\xff", "x", 1)),
		diskOf(file("a", "x", 1), file("a\x00", "x", 0), file("aa", "x", 1), file("b", "x", 1)),
		diskOf(file("B", "x", 1), file("b", "x", 1), file("b ", "x", 1), file("\x80", "x", 1), file("é", "x", 1)),
		diskOf(file("eight234", "abc", 2)),
		diskOf(file("a", full, 0), file("b", full, impl.MaxText)),
	}
}

func TestDiskOk(t *testing.T) {
	for at, d := range rightDisks() {
		if !impl.DiskOk(d) {
			t.Errorf("right disk %d is refused", at)
		}
	}
	for at, d := range wrongDisks() {
		if impl.DiskOk(d) {
			t.Errorf("wrong disk %d is taken", at)
		}
	}
}

func TestDiskOkOfEachKept(t *testing.T) {
	for length := 0; length <= 4; length++ {
		for kept := -2; kept <= 6; kept++ {
			want := 0 <= kept && kept <= length
			if got := impl.DiskOk(diskOf(file("a", "text"[:length], kept))); got != want {
				t.Errorf("DiskOk with Kept %d of %d bytes is %v", kept, length, got)
			}
		}
	}
}

func TestDiskOkOfEachNameLength(t *testing.T) {
	for length := 0; length <= impl.MaxName+3; length++ {
		want := 1 <= length && length <= impl.MaxName
		if got := impl.DiskOk(diskOf(file(strings.Repeat("n", length), "", 0))); got != want {
			t.Errorf("DiskOk with a Name of %d bytes is %v", length, got)
		}
	}
}

func wantFileAt(t *testing.T, d impl.Disk, name, want string, there bool) {
	t.Helper()
	if got, ok := impl.FileAt(d, name); got != want || ok != there {
		t.Errorf("FileAt %q is %q, %v; want %q, %v", name, got, ok, want, there)
	}
}

func TestFileAt(t *testing.T) {
	d := diskOf(file("", "none", 0), file("b", "12345", 2), file("d", "", 0), file("f", "xyz", 0))
	d.Files = d.Files[1:]
	wantFileAt(t, d, "b", "12345", true)
	wantFileAt(t, d, "d", "", true)
	wantFileAt(t, d, "f", "xyz", true)
	for _, name := range []string{"", "a", "B", "b ", "bb", "c", "e", "g", "b\x00", "ninebytes"} {
		wantFileAt(t, d, name, "", false)
	}
	wantFileAt(t, impl.Disk{}, "b", "", false)
	wantFileAt(t, impl.Disk{}, "", "", false)
}

// The chapter names no answer of FileAt for a disk that is not right: it is
// looked for there like in any other one.
func TestFileAtOfWrongDisks(t *testing.T) {
	for _, d := range wrongDisks() {
		for _, f := range d.Files {
			first := slices.IndexFunc(d.Files, func(other impl.File) bool { return other.Name == f.Name })
			wantFileAt(t, d, f.Name, d.Files[first].Text, true)
		}
		wantFileAt(t, d, "none", "", false)
	}
}

// plainAct does an act on a list that is put in order afterwards, and asks
// DiskOk what the rules of the acts themselves leave open.
func plainAct(d impl.Disk, a impl.Act) (impl.Disk, bool) {
	files := slices.Clone(d.Files)
	at := slices.IndexFunc(files, func(f impl.File) bool { return f.Name == a.Name })
	ok := impl.DiskOk(d)
	switch {
	case a.Kind == impl.ActAdd && at < 0:
		files = append(files, file(a.Name, a.Text, 0))
		ok = ok && a.To == ""
	case a.Kind < impl.ActAdd || a.Kind > impl.ActDrop || at < 0:
		ok = false
	case a.Kind == impl.ActAdd:
		files[at].Text += a.Text
		ok = ok && a.To == ""
	case a.Kind == impl.ActKeep:
		files[at].Kept = len(files[at].Text)
		ok = ok && a.To == "" && a.Text == ""
	case a.Kind == impl.ActDrop:
		files = slices.Delete(files, at, at+1)
		ok = ok && a.To == "" && a.Text == ""
	default:
		ok = ok && a.Text == "" && a.To != a.Name && files[at].Kept == len(files[at].Text)
		files[at].Name = a.To
		moved := files[at]
		files = slices.DeleteFunc(files, func(f impl.File) bool { return f.Name == a.To })
		files = append(files, moved)
	}
	sort.Slice(files, func(i, j int) bool { return files[i].Name < files[j].Name })
	if behind := (impl.Disk{Files: files}); ok && impl.DiskOk(behind) {
		return behind, true
	}
	return impl.Disk{}, false
}

func wantAct(t *testing.T, d impl.Disk, a impl.Act, want ...impl.File) {
	t.Helper()
	if got, ok := impl.DoAct(d, a); !ok || !slices.Equal(got.Files, want) {
		t.Errorf("DoAct of %.60v is %.200v, %v", a, got, ok)
	}
}

func wantNoAct(t *testing.T, d impl.Disk, a impl.Act) {
	t.Helper()
	if got, ok := impl.DoAct(d, a); ok || len(got.Files) != 0 {
		t.Errorf("DoAct of %.60v is %.200v, %v; want none", a, got, ok)
	}
}

func adds(name, text string) impl.Act {
	return impl.Act{Kind: impl.ActAdd, Name: name, Text: text}
}

func keeps(name string) impl.Act { return impl.Act{Kind: impl.ActKeep, Name: name} }

func moves(name, to string) impl.Act {
	return impl.Act{Kind: impl.ActMove, Name: name, To: to}
}

func drops(name string) impl.Act { return impl.Act{Kind: impl.ActDrop, Name: name} }

func TestActAdd(t *testing.T) {
	b, d, f := file("b", "12345", 2), file("d", "abc", 3), file("f", "xyz", 0)
	wantAct(t, threeFiles(), adds("b", "67"), file("b", "1234567", 2), d, f)
	wantAct(t, threeFiles(), adds("d", "de"), b, file("d", "abcde", 3), f)
	wantAct(t, threeFiles(), adds("f", "!"), b, d, file("f", "xyz!", 0))
	wantAct(t, threeFiles(), adds("d", ""), b, d, f)
	wantAct(t, threeFiles(), adds("a", "new"), file("a", "new", 0), b, d, f)
	wantAct(t, threeFiles(), adds("c", "new"), b, file("c", "new", 0), d, f)
	wantAct(t, threeFiles(), adds("dd", "new"), b, d, file("dd", "new", 0), f)
	wantAct(t, threeFiles(), adds("g", "new"), b, d, f, file("g", "new", 0))
	wantAct(t, threeFiles(), adds("g", ""), b, d, f, file("g", "", 0))
	wantAct(t, impl.Disk{}, adds("eight234", "\x00\xff"), file("eight234", "\x00\xff", 0))
}

func TestActAddUpToItsLimits(t *testing.T) {
	almost := strings.Repeat("x", impl.MaxText-1)
	d := diskOf(file("a", almost, 7))
	wantAct(t, d, adds("a", "y"), file("a", almost+"y", 7))
	wantNoAct(t, d, adds("a", "yz"))
	wantAct(t, diskOf(), adds("a", almost+"y"), file("a", almost+"y", 0))
	wantNoAct(t, diskOf(), adds("a", almost+"yz"))
	full := diskOf(file("a", almost+"y", 0))
	wantAct(t, full, adds("a", ""), full.Files...)
	wantNoAct(t, full, adds("a", "z"))
}

func TestActAddToAFullDisk(t *testing.T) {
	almost := manyFiles(impl.MaxFiles - 1)
	wantAct(t, almost, adds("z", "text"), append(slices.Clone(almost.Files), file("z", "text", 0))...)
	full := manyFiles(impl.MaxFiles)
	wantNoAct(t, full, adds("z", "text"))
	wantNoAct(t, full, adds("a", ""))
	behind := slices.Clone(full.Files)
	behind[17].Text = "text more"
	wantAct(t, full, adds(behind[17].Name, " more"), behind...)
}

func TestActKeep(t *testing.T) {
	b, d, f := file("b", "12345", 2), file("d", "abc", 3), file("f", "xyz", 0)
	wantAct(t, threeFiles(), keeps("b"), file("b", "12345", 5), d, f)
	wantAct(t, threeFiles(), keeps("d"), b, d, f)
	wantAct(t, threeFiles(), keeps("f"), b, d, file("f", "xyz", 3))
	wantAct(t, diskOf(file("a", "", 0)), keeps("a"), file("a", "", 0))
}

func TestActMove(t *testing.T) {
	b, d, f := file("b", "12345", 2), file("d", "abc", 3), file("f", "xyz", 0)
	wantAct(t, threeFiles(), moves("d", "a"), file("a", "abc", 3), b, f)
	wantAct(t, threeFiles(), moves("d", "c"), b, file("c", "abc", 3), f)
	wantAct(t, threeFiles(), moves("d", "g"), b, f, file("g", "abc", 3))
	wantAct(t, threeFiles(), moves("d", "b"), file("b", "abc", 3), f)
	wantAct(t, threeFiles(), moves("d", "f"), b, file("f", "abc", 3))
	wantAct(t, threeFiles(), moves("d", "eight234"), b, file("eight234", "abc", 3), f)
	wantAct(t, diskOf(file("a", "", 0), d), moves("a", "d"), file("d", "", 0))
	wantNoAct(t, threeFiles(), moves("b", "a"))
	wantNoAct(t, threeFiles(), moves("f", "d"))
	wantNoAct(t, diskOf(file("a", "abc", 2)), moves("a", "b"))
	wantNoAct(t, threeFiles(), moves("d", "d"))
	wantNoAct(t, threeFiles(), moves("d", ""))
	wantNoAct(t, threeFiles(), moves("d", "ninebytes"))
	wantNoAct(t, diskOf(d, f), moves("f", "f"))
}

func TestActMoveOnAFullDisk(t *testing.T) {
	full := manyFiles(impl.MaxFiles)
	at := slices.IndexFunc(full.Files, func(f impl.File) bool { return f.Kept == len(f.Text) })
	rest := slices.Delete(slices.Clone(full.Files), at, at+1)
	wantAct(t, full, moves(full.Files[at].Name, "z"), append(rest, file("z", "text", 4))...)
}

func TestActDrop(t *testing.T) {
	b, d, f := file("b", "12345", 2), file("d", "abc", 3), file("f", "xyz", 0)
	wantAct(t, threeFiles(), drops("b"), d, f)
	wantAct(t, threeFiles(), drops("d"), b, f)
	wantAct(t, threeFiles(), drops("f"), b, d)
	wantAct(t, diskOf(file("a", "", 0)), drops("a"))
}

func TestActsOfNoFile(t *testing.T) {
	for _, d := range []impl.Disk{{}, threeFiles()} {
		for _, name := range []string{"", "a", "c", "dd", "g", "B", "ninebytes"} {
			wantNoAct(t, d, keeps(name))
			wantNoAct(t, d, drops(name))
			wantNoAct(t, d, moves(name, "d"))
			wantNoAct(t, d, moves(name, "e"))
			wantNoAct(t, d, moves(name, name))
		}
		wantNoAct(t, d, adds("", "text"))
		wantNoAct(t, d, adds("ninebytes", "text"))
	}
}

func TestActsWithMoreThanTheyTake(t *testing.T) {
	for _, kind := range []int{impl.ActKeep, impl.ActMove, impl.ActDrop} {
		to := ""
		if kind == impl.ActMove {
			to = "e"
		}
		wantNoAct(t, threeFiles(), impl.Act{Kind: kind, Name: "d", Text: "x", To: to})
	}
	for _, kind := range []int{impl.ActAdd, impl.ActKeep, impl.ActDrop} {
		wantNoAct(t, threeFiles(), impl.Act{Kind: kind, Name: "d", To: "e"})
		wantNoAct(t, threeFiles(), impl.Act{Kind: kind, Name: "d", To: "d"})
		wantNoAct(t, threeFiles(), impl.Act{Kind: kind, Name: "d", To: "ninebytes"})
	}
	wantNoAct(t, threeFiles(), impl.Act{Kind: impl.ActAdd, Name: "d", Text: "x", To: "b"})
}

func TestActsOfOtherKinds(t *testing.T) {
	for _, kind := range []int{-1 << 63, -1, 0, 5, 6, 257, 1<<63 - 1} {
		for _, name := range []string{"", "a", "d"} {
			wantNoAct(t, threeFiles(), impl.Act{Kind: kind, Name: name})
			wantNoAct(t, threeFiles(), impl.Act{Kind: kind, Name: name, To: "e"})
			wantNoAct(t, threeFiles(), impl.Act{Kind: kind, Name: name, Text: "x"})
		}
	}
	wantNoAct(t, impl.Disk{}, impl.Act{})
}

// Among these is an act that would leave the wrong disk right.
func TestActsOnWrongDisks(t *testing.T) {
	for _, d := range wrongDisks() {
		for _, name := range []string{"", "a", "b", "c", "new", "ninebytes", d.Files[0].Name, d.Files[len(d.Files)-1].Name} {
			for _, a := range []impl.Act{adds(name, ""), adds(name, "x"), keeps(name), moves(name, "q"), drops(name)} {
				wantNoAct(t, d, a)
			}
		}
	}
}

// smallActs are acts of each kind with each choice of few names and texts.
func smallActs(kinds ...int) []impl.Act {
	var list []impl.Act
	for _, kind := range kinds {
		for _, name := range []string{"", "a", "b", "c"} {
			for _, to := range []string{"", "a", "b", "d", "ninebytes"} {
				for _, text := range []string{"", "x"} {
					list = append(list, impl.Act{Kind: kind, Name: name, Text: text, To: to})
				}
			}
		}
	}
	return list
}

// smallDisks are disks of at most two files, with each Kept.
func smallDisks() []impl.Disk {
	list := []impl.Disk{{}}
	for first := 0; first <= 2; first++ {
		list = append(list, diskOf(file("a", "12", first)), diskOf(file("b", "12", first)))
		for second := 0; second <= 1; second++ {
			list = append(list, diskOf(file("a", "12", first), file("b", "3", second)))
			list = append(list, diskOf(file("b", "12", first), file("d", "3", second)))
		}
	}
	return list
}

func TestEachSmallAct(t *testing.T) {
	done := 0
	for _, d := range append(smallDisks(), wrongDisks()...) {
		for _, a := range smallActs(0, impl.ActAdd, impl.ActKeep, impl.ActMove, impl.ActDrop, 5) {
			want, there := plainAct(d, a)
			got, ok := impl.DoAct(d, a)
			if ok != there || !sameDisk(got, want) {
				t.Fatalf("DoAct of %v on %.200v is %v, %v; want %v, %v", a, d, got, ok, want, there)
			}
			if ok {
				done++
			}
		}
	}
	if done < 100 {
		t.Errorf("but %d acts are done", done)
	}
}

func wantActs(t *testing.T, d impl.Disk, list []impl.Act, done int, want ...impl.File) {
	t.Helper()
	if got, count := impl.DoActs(d, list); count != done || !slices.Equal(got.Files, want) {
		t.Errorf("DoActs of %v is %.200v, %d; want %.200v, %d", list, got, count, want, done)
	}
}

func TestDoActs(t *testing.T) {
	b, d, f := file("b", "12345", 2), file("d", "abc", 3), file("f", "xyz", 0)
	wantActs(t, threeFiles(), nil, 0, b, d, f)
	wantActs(t, threeFiles(), []impl.Act{}, 0, b, d, f)
	wantActs(t, impl.Disk{}, nil, 0)
	all := []impl.Act{adds("n", "one"), adds("n", "two"), keeps("n"), moves("n", "b"), drops("f"), adds("b", "!"), adds("f", "")}
	wantActs(t, threeFiles(), all, 7, file("b", "onetwo!", 6), d, file("f", "", 0))
	wantActs(t, threeFiles(), all[:3], 3, b, d, f, file("n", "onetwo", 6))
	wantActs(t, threeFiles(), all[:2], 2, b, d, f, file("n", "onetwo", 0))
	wantActs(t, threeFiles(), all[2:], 0, b, d, f)
	early := []impl.Act{adds("n", "one"), moves("n", "b"), keeps("n"), moves("n", "b")}
	wantActs(t, threeFiles(), early, 1, b, d, f, file("n", "one", 0))
	late := []impl.Act{drops("b"), keeps("f"), drops("b"), drops("d")}
	wantActs(t, threeFiles(), late, 2, d, file("f", "xyz", 3))
	wantActs(t, threeFiles(), []impl.Act{{}, drops("b")}, 0, b, d, f)
	wantActs(t, impl.Disk{}, []impl.Act{adds("a", "x"), drops("a"), keeps("a")}, 2)
}

// No act is true on a disk that is not right, so it is what there is behind
// none.
func TestDoActsOfWrongDisks(t *testing.T) {
	for _, d := range wrongDisks() {
		wantActs(t, d, nil, 0, d.Files...)
		wantActs(t, d, []impl.Act{adds("q", "x"), drops(d.Files[0].Name)}, 0, d.Files...)
		wantActs(t, d, []impl.Act{drops(d.Files[len(d.Files)-1].Name)}, 0, d.Files...)
	}
}

// drawnActs goes through the acts of a list by a fixed rule.
func drawnActs(count, seed int) []impl.Act {
	choice := []impl.Act{
		adds("a", "12"), adds("b", "345"), adds("c", "6"), adds("a", ""), adds("ninebytes", "x"),
		keeps("a"), keeps("b"), keeps("c"), keeps("d"),
		moves("a", "b"), moves("b", "c"), moves("c", "d"), moves("d", "a"), moves("a", "a"),
		drops("a"), drops("b"), drops("d"),
	}
	var list []impl.Act
	for at := 0; at < count; at++ {
		seed = (seed*1103515245 + 12345) % 2147483648
		list = append(list, choice[seed/65536%len(choice)])
	}
	return list
}

func TestDoActsIsDoActOfEach(t *testing.T) {
	for seed := 0; seed < 300; seed++ {
		list := drawnActs(25, seed)
		want := impl.Disk{}
		count := 0
		for _, a := range list {
			behind, ok := plainAct(want, a)
			if !ok {
				break
			}
			want = behind
			count++
		}
		wantActs(t, impl.Disk{}, list, count, want.Files...)
	}
}

func wantLost(t *testing.T, d impl.Disk, left []int, want ...impl.File) {
	t.Helper()
	got, ok := impl.LoseDisk(d, left)
	if !ok || !slices.Equal(got.Files, want) {
		t.Errorf("LoseDisk with %v is %.200v, %v; want %.200v", left, got, ok, want)
	}
}

func TestLoseDisk(t *testing.T) {
	d, none := file("d", "abc", 3), file("f", "", 0)
	least := file("b", "12", 2)
	wantLost(t, threeFiles(), nil, least, d, none)
	wantLost(t, threeFiles(), []int{}, least, d, none)
	wantLost(t, threeFiles(), []int{0, 0, 0}, least, d, none)
	wantLost(t, threeFiles(), []int{-1, -1 << 63, -7}, least, d, none)
	wantLost(t, threeFiles(), []int{1, 1, 1}, least, d, file("f", "x", 1))
	wantLost(t, threeFiles(), []int{2, 2, 2}, least, d, file("f", "xy", 2))
	wantLost(t, threeFiles(), []int{3, 3, 3}, file("b", "123", 3), d, file("f", "xyz", 3))
	wantLost(t, threeFiles(), []int{4}, file("b", "1234", 4), d, none)
	wantLost(t, threeFiles(), []int{5, 3}, file("b", "12345", 5), d, none)
	wantLost(t, threeFiles(), []int{6, 4, 4}, file("b", "12345", 5), d, file("f", "xyz", 3))
	wantLost(t, threeFiles(), []int{1<<63 - 1, 1<<63 - 1, 1<<63 - 1}, file("b", "12345", 5), d, file("f", "xyz", 3))
	wantLost(t, threeFiles(), []int{-1, 0, 2, 9, -9, 1}, least, d, file("f", "xy", 2))
	wantLost(t, impl.Disk{}, nil)
	wantLost(t, impl.Disk{}, []int{1, 2})
}

func TestLoseDiskOfWrongDisks(t *testing.T) {
	for _, d := range wrongDisks() {
		for _, left := range [][]int{nil, {0}, {5, 5, 5}} {
			if got, ok := impl.LoseDisk(d, left); ok || len(got.Files) != 0 {
				t.Errorf("LoseDisk of %.100v is %.100v, %v; want none", d, got, ok)
			}
		}
	}
}

// checkLost holds what the power left of a disk against promise 3.
func checkLost(t *testing.T, d, lost impl.Disk, left []int) {
	t.Helper()
	if !impl.AllKept(lost) || len(lost.Files) != len(d.Files) {
		t.Fatalf("of %.200v there is left %.200v", d, lost)
	}
	for at, f := range lost.Files {
		was := d.Files[at]
		if f.Name != was.Name || !strings.HasPrefix(was.Text, f.Text) || !strings.HasPrefix(f.Text, was.Text[:was.Kept]) {
			t.Fatalf("of %.100v there is left %.100v", was, f)
		}
		told := 0
		if at < len(left) {
			told = left[at]
		}
		if want := max(was.Kept, min(told, len(was.Text))); len(f.Text) != want {
			t.Fatalf("of %.100v there are left %d bytes; want %d", was, len(f.Text), want)
		}
	}
}

func TestWhatIsKeptIsNeverLost(t *testing.T) {
	lefts := [][]int{nil, {-5, 1, 2}, {1}, {0, 3, 1, 4, 1}, {2, 2, 2, 2, 2, 2, 2}, {1000000, 1000000}, {19999, 20000, 20001}}
	for _, d := range append(rightDisks(), smallDisks()...) {
		for _, left := range lefts {
			lost, ok := impl.LoseDisk(d, left)
			if !ok {
				t.Fatalf("LoseDisk of %.200v is false", d)
			}
			checkLost(t, d, lost, left)
			for _, again := range lefts {
				wantLost(t, lost, again, lost.Files...)
			}
		}
	}
}

func wantCut(t *testing.T, list []impl.Act, whole int, left []int, want ...impl.File) {
	t.Helper()
	got, ok := impl.CutActs(threeFiles(), list, whole, left)
	if !ok || !slices.Equal(got.Files, want) {
		t.Errorf("CutActs of %v behind %d with %v is %.200v, %v; want %.200v", list, whole, left, got, ok, want)
	}
}

func wantNoCut(t *testing.T, d impl.Disk, list []impl.Act, whole int) {
	t.Helper()
	if got, ok := impl.CutActs(d, list, whole, []int{1, 1}); ok || len(got.Files) != 0 {
		t.Errorf("CutActs of %v behind %d is %.200v, %v; want none", list, whole, got, ok)
	}
}

func TestCutActs(t *testing.T) {
	b, d, f := file("b", "12", 2), file("d", "abc", 3), file("f", "", 0)
	list := []impl.Act{adds("a", "one"), keeps("a"), moves("a", "b"), drops("f")}
	wantCut(t, list, 0, nil, b, d, f)
	wantCut(t, list, 0, []int{4}, file("b", "1234", 4), d, f)
	wantCut(t, list, 1, nil, file("a", "", 0), b, d, f)
	wantCut(t, list, 1, []int{2, 3}, file("a", "on", 2), file("b", "123", 3), d, f)
	wantCut(t, list, 2, nil, file("a", "one", 3), b, d, f)
	wantCut(t, list, 3, nil, file("b", "one", 3), d, f)
	wantCut(t, list, 4, []int{0, 0, 9}, file("b", "one", 3), d)
	wantCut(t, nil, 0, nil, b, d, f)
	for _, whole := range []int{-1 << 63, -1, 5, 6, 1<<63 - 1} {
		wantNoCut(t, threeFiles(), list, whole)
	}
	wantNoCut(t, threeFiles(), nil, 1)
	wantNoCut(t, threeFiles(), nil, -1)
}

func TestCutActsWithAFalseAct(t *testing.T) {
	d := file("d", "abc", 3)
	list := []impl.Act{keeps("b"), moves("f", "a"), drops("d")}
	wantCut(t, list, 0, nil, file("b", "12", 2), d, file("f", "", 0))
	wantCut(t, list, 1, nil, file("b", "12345", 5), d, file("f", "", 0))
	wantNoCut(t, threeFiles(), list, 2)
	wantNoCut(t, threeFiles(), list, 3)
	wantNoCut(t, threeFiles(), list[1:], 1)
}

func TestCutActsOfWrongDisks(t *testing.T) {
	for _, d := range wrongDisks() {
		list := []impl.Act{drops(d.Files[len(d.Files)-1].Name), adds("q", "x")}
		for whole := -1; whole <= 3; whole++ {
			wantNoCut(t, d, list, whole)
		}
	}
}

func TestCutActsAtEachStep(t *testing.T) {
	for seed := 0; seed < 300; seed++ {
		list := drawnActs(12, seed)
		_, done := impl.DoActs(impl.Disk{}, list)
		for whole := 0; whole <= len(list); whole++ {
			if whole > done {
				wantNoCut(t, impl.Disk{}, list, whole)
				continue
			}
			behind, _ := impl.DoActs(impl.Disk{}, list[:whole])
			left := []int{seed % 4, whole % 3, seed % 3}
			cut, ok := impl.CutActs(impl.Disk{}, list, whole, left)
			if !ok {
				t.Fatalf("CutActs of %v behind %d is false", list, whole)
			}
			checkLost(t, behind, cut, left)
		}
	}
}

func TestAllKept(t *testing.T) {
	full := strings.Repeat("x", impl.MaxText)
	for _, d := range []impl.Disk{{}, diskOf(file("a", "", 0)), diskOf(file("a", "x", 1), file("b", full, impl.MaxText))} {
		if !impl.AllKept(d) {
			t.Errorf("all of %.100v is kept", d)
		}
	}
	for _, d := range []impl.Disk{
		threeFiles(),
		diskOf(file("a", "x", 0)),
		diskOf(file("a", "xy", 1), file("b", "x", 1)),
		diskOf(file("a", "xy", 2), file("b", "x", 0)),
		diskOf(file("a", full, impl.MaxText-1)),
		diskOf(file("", "x", 1)),
		diskOf(file("b", "x", 1), file("a", "x", 1)),
		diskOf(file("a", full+"x", impl.MaxText+1)),
	} {
		if impl.AllKept(d) {
			t.Errorf("%.100v is not right, or not all of it is kept", d)
		}
	}
	for at, d := range wrongDisks() {
		if impl.AllKept(d) {
			t.Errorf("wrong disk %d is all kept", at)
		}
	}
}

// roomy has spare room behind its files, in which nothing may be written.
func roomy(d impl.Disk) (impl.Disk, []impl.File) {
	whole := append(slices.Clone(d.Files), file("spare", "room", 1), file("spare", "", 9))
	return impl.Disk{Files: whole[:len(d.Files)]}, whole
}

func TestDisksAreNotWrittenInto(t *testing.T) {
	for _, one := range append(smallDisks(), threeFiles(), manyFiles(impl.MaxFiles)) {
		d, whole := roomy(one)
		was := slices.Clone(whole)
		list := append(make([]impl.Act, 0, 9), adds("a", "x"), keeps("a"), moves("a", "e"), drops("e"))
		acts := slices.Clone(list)
		left := append(make([]int, 0, 9), 1, -1, 100)
		told := slices.Clone(left)
		impl.DoActs(d, list)
		impl.LoseDisk(d, left)
		impl.CutActs(d, list, 2, left)
		for _, a := range smallActs(impl.ActAdd, impl.ActKeep, impl.ActMove, impl.ActDrop) {
			impl.DoAct(d, a)
		}
		if !slices.Equal(whole, was) || !slices.Equal(list, acts) || !slices.Equal(left, told) {
			t.Fatalf("an argument was written into: %v, %v, %v", whole, list, left)
		}
		if spare := list[:9]; slices.ContainsFunc(spare[4:], func(a impl.Act) bool { return a != impl.Act{} }) {
			t.Fatal("there is something in the room behind the acts")
		}
	}
}

func TestDisksThatAreAnsweredAreNew(t *testing.T) {
	for _, one := range append(rightDisks(), wrongDisks()...) {
		d, whole := roomy(one)
		was := slices.Clone(whole)
		none, _ := impl.DoActs(d, nil)
		some, _ := impl.DoActs(d, []impl.Act{adds("b", "")})
		lost, _ := impl.LoseDisk(d, []int{1000000})
		cut, _ := impl.CutActs(d, nil, 0, nil)
		act, _ := impl.DoAct(d, adds("b", ""))
		for _, answer := range []impl.Disk{none, some, lost, cut, act} {
			for at := range answer.Files {
				answer.Files[at] = file("written", "over", at)
			}
			_ = append(answer.Files, file("written", "over", 0))
		}
		if !slices.Equal(whole, was) {
			t.Fatalf("what is answered shares memory with %.200v", was)
		}
	}
}

func shares(a, b string) bool {
	return a != "" && b != "" && unsafe.StringData(a) == unsafe.StringData(b)
}

func TestTextsThatAreAnsweredAreNew(t *testing.T) {
	d := diskOf(file("b", mixedBytes(40), 40), file("c", mixedBytes(50), 10))
	name, text := mixedBytes(7), mixedBytes(60)
	done, count := impl.DoActs(d, []impl.Act{adds(name, text), keeps(name)})
	moved, ok := impl.DoAct(d, moves("b", name))
	lost, lose := impl.LoseDisk(d, []int{50, 50})
	cut, fine := impl.CutActs(d, []impl.Act{adds(name, text)}, 1, []int{60, 60, 60})
	alone, there := impl.FileAt(d, "b")
	if count != 2 || !ok || !lose || !fine || !there {
		t.Fatal("these acts are right")
	}
	files := slices.Concat(done.Files, moved.Files, lost.Files, cut.Files, []impl.File{file("", alone, 0)})
	for _, f := range files {
		for _, old := range []string{d.Files[0].Name, d.Files[0].Text, d.Files[1].Name, d.Files[1].Text, name, text} {
			if shares(f.Name, old) || shares(f.Text, old) {
				t.Errorf("%.30v shares the memory of %.30q", f, old)
			}
		}
	}
}
