package roster

import (
	"fmt"
	"math"
	"math/rand/v2"
	"slices"
	"strings"
	"testing"

	"benchwarmer/api"
)

// refusals writes the numbers of refused moves with the reasons.
func refusals(t *testing.T, b api.Bounds, l []api.Move) string {
	t.Helper()
	numbers, reasons, e := Refused(b, l)
	equal(t, "Refused", e, api.OK)
	equal(t, "as many reasons", len(reasons), len(numbers))
	var all []string
	for i, number := range numbers {
		all = append(all, fmt.Sprint(number, " ", int(reasons[i])))
	}
	return strings.Join(all, ", ")
}

// P5.2: why moves are refused.
func TestRefused(t *testing.T) {
	for _, x := range []struct {
		name  string
		moves []string
		want  string
	}{
		{"nothing", nil, ""},
		{"add", []string{"0 add x p"}, ""},
		{"add: the team has the player", []string{"0 add x p", "1 add x p"}, "1 6"},
		{"add: the team has the player among the hurt", []string{"0 add x p", "1 stash x p", "2 add x p"}, "2 6"},
		{"add: the team is full, too", []string{"0 add x p", "0 add x q", "1 add x p"}, "2 6"},
		{"add: another one has the player", []string{"0 add x p", "0 add y p"}, "1 13"},
		{"add: another one has the player among the hurt", []string{"0 add x p", "1 stash x p", "2 add y p"}, "2 13"},
		{"add: another one, and full", []string{"0 add x p", "0 add y q", "0 add y r", "1 add y p"}, "3 13"},
		{"add: on hold", []string{"0 add x p", "5 drop x p", "104 add y p", "105 add y p"}, "2 11"},
		{"add: on hold, of the same team", []string{"0 add x p", "5 drop x p", "6 add x p"}, "2 11"},
		{"add: on hold, at the same moment", []string{"0 add x p", "5 drop x p", "5 add y p"}, "2 11"},
		{"add: on hold, and full", []string{"0 add x p", "5 drop x p", "6 add y q", "6 add y r", "7 add y p"}, "4 11"},
		{"add: on hold after the last drop", []string{"0 add x p", "5 drop x p", "105 add x p", "106 drop x p", "205 add x p", "206 add x p"}, "4 11"},
		{"add: a refused drop does not hold", []string{"0 add x p", "5 drop x p", "90 drop x p", "105 add x p"}, "2 8"},
		{"add: a hurt one is dropped, and held", []string{"0 add x p", "1 stash x p", "2 drop x p", "3 add y p", "102 add y p"}, "3 11"},
		{"add: full", []string{"0 add x p", "0 add x q", "1 add x r"}, "2 12"},
		{"add: hurt ones take no place", []string{"0 add x p", "0 add x q", "1 stash x p", "2 add x r", "3 add x s"}, "4 12"},
		{"add: who is dropped leaves a place", []string{"0 add x p", "0 add x q", "1 drop x p", "2 add x r"}, ""},
		{"drop", []string{"0 add x p", "1 drop x p"}, ""},
		{"drop: a hurt one", []string{"0 add x p", "1 stash x p", "2 drop x p", "3 drop x p"}, "3 8"},
		{"drop: nobody has the player", []string{"0 drop x p"}, "0 8"},
		{"drop: another one has the player", []string{"0 add x p", "1 drop y p"}, "1 8"},
		{"drop: before the add", []string{"0 drop x p", "1 add x p"}, "0 8"},
		{"drop: twice", []string{"0 add x p", "1 drop x p", "2 drop x p"}, "2 8"},
		{"drop at the moment of the add", []string{"0 add x p", "0 drop x p"}, ""},
		{"a drop of a team behind comes too late", []string{"0 add y p", "100 add x p", "100 drop y p"}, "1 13"},
		{"stash", []string{"0 add x p", "1 stash x p"}, ""},
		{"stash: nobody has the player", []string{"0 stash x p"}, "0 8"},
		{"stash: another one has the player", []string{"0 add x p", "1 stash y p"}, "1 8"},
		{"stash: hurt already", []string{"0 add x p", "1 stash x p", "2 stash x p"}, "2 8"},
		{"stash: full", []string{"0 add x p", "0 add x q", "1 stash x p", "2 stash x q"}, "3 12"},
		{"stash: of each team", []string{"0 add x p", "0 add y q", "1 stash x p", "1 stash y q"}, ""},
		{"stash: a place again", []string{"0 add x p", "0 add x q", "1 stash x p", "2 drop x p", "3 stash x q"}, ""},
		{"back", []string{"0 add x p", "1 stash x p", "2 back x p"}, ""},
		{"back: nobody has the player", []string{"0 back x p"}, "0 8"},
		{"back: another one has the player", []string{"0 add x p", "1 stash x p", "2 back y p"}, "2 8"},
		{"back: not hurt", []string{"0 add x p", "1 back x p"}, "1 8"},
		{"back: not hurt, and full", []string{"0 add x p", "0 add x q", "1 back x p"}, "2 8"},
		{"back: full", []string{"0 add x p", "0 add x q", "1 stash x p", "2 add x r", "3 back x p", "4 drop x r", "5 back x p"}, "4 12"},
		{"back: the hurt place is left", []string{"0 add x p", "0 add x q", "1 stash x p", "2 back x p", "3 stash x q"}, ""},
		{"several", []string{"0 back x p", "1 add x p", "1 add y p", "2 drop y p", "3 stash x p", "4 add x p"}, "0 8, 2 13, 3 8, 5 6"},
	} {
		equal(t, x.name, refusals(t, bounds(), moves(x.moves...)), x.want)
	}
}

// P5.2: bounds at their least.
func TestRefusedLeastBounds(t *testing.T) {
	b := bounds()
	b.Hold = 0
	equal(t, "no hold", refusals(t, b, moves("0 add x p", "5 drop x p", "5 add y p")), "")
	b = bounds()
	b.Hurt = 0
	equal(t, "no hurt ones", refusals(t, b, moves("0 add x p", "1 stash x p", "2 stash x q")), "1 12, 2 8")
	b = bounds()
	b.Adds = 0
	equal(t, "no adds", refusals(t, b, moves("0 add x p", "0 add y p")), "0 16, 1 16")
	b = bounds()
	b.Most = 1
	equal(t, "one player", refusals(t, b, moves("0 add x p", "0 add x q", "1 stash x p", "2 add x q", "3 back x p")), "1 12, 4 12")
}

// weekMoves makes moves with moments from a week's beginning on.
func weekMoves(week int, lines ...string) []api.Move {
	l := moves(lines...)
	for i := range l {
		l[i].At += week * api.WeekLong
	}
	return l
}

// P5.2: adds in a week of seven days.
func TestRefusedAdds(t *testing.T) {
	b := api.Bounds{Most: 2, Hurt: 0, Adds: 2, Hold: 10}
	for _, x := range []struct {
		name  string
		moves []string
		want  string
	}{
		{"as many as can be", []string{"0 add x p", "0 add x q"}, ""},
		{"one more, and full", []string{"0 add x p", "0 add x q", "0 add x r"}, "2 16"},
		{"one more after a drop", []string{"0 add x p", "0 add x q", "1 drop x p", "2 add x r"}, "3 16"},
		{"those of others do not count", []string{"0 add x p", "0 add y q", "1 add x r", "1 add y s", "2 add z t"}, ""},
		{"refused ones do not count", []string{"0 add x p", "0 add y p", "1 add y p", "2 add y q", "2 add y r"}, "1 13, 2 13"},
		{"other moves do not count", []string{"0 add x p", "1 drop x p", "2 drop x p", "2 stash x p", "3 add x q"}, "2 8, 3 8"},
		{"a player who is had comes first", []string{"0 add x p", "0 add x q", "1 add x p", "1 add y p"}, "2 6, 3 13"},
		{"hold comes first", []string{"0 add x p", "0 add x q", "1 drop x p", "2 add x p"}, "3 11"},
		{"in the last millisecond", []string{"0 add x p", "0 add x q", "1 drop x p", "604799999 add x r"}, "3 16"},
		{"in the next week", []string{"0 add x p", "0 add x q", "1 drop x p", "604800000 add x r"}, ""},
		{"as many in the next week", []string{"604799999 add x p", "604799999 drop x p", "604799999 add x q", "604799999 drop x q", "604800000 add x r", "604800000 drop x r", "604800000 add x s", "604800001 add x t"}, "7 16"},
	} {
		for _, week := range []int{0, 1, 500} {
			equal(t, x.name, refusals(t, b, weekMoves(week, x.moves...)), x.want)
		}
	}
}

// history is a team's moves and others' between which something is asked.
func history() []api.Move {
	return moves("10 add x q", "10 add x r", "20 stash x r", "30 add x p", "30 add y p", "40 drop z p", "50 drop x q", "60 drop x r", "70 add y q", "160 add y r", "170 add y q")
}

// P5.2: At, All and Owner, moment by moment.
func TestAt(t *testing.T) {
	for _, x := range []struct {
		at      int
		x, y, z string
		all     string
		owners  string // of p, q, r, s
	}{
		{0, "x", "y", "z", "", "- - - -"},
		{9, "x", "y", "z", "", "- - - -"},
		{10, "x q r", "y", "z", "x q r", "- x x -"},
		{19, "x q r", "y", "z", "x q r", "- x x -"},
		{20, "x q / r", "y", "z", "x q / r", "- x x -"},
		{30, "x p q / r", "y", "z", "x p q / r, y", "x x x -"},
		{40, "x p q / r", "y", "z", "x p q / r, y, z", "x x x -"},
		{50, "x p / r", "y", "z", "x p / r, y, z", "x - x -"},
		{60, "x p", "y", "z", "x p, y, z", "x - - -"},
		{70, "x p", "y", "z", "x p, y, z", "x - - -"},
		{160, "x p", "y r", "z", "x p, y r, z", "x - y -"},
		{170, "x p", "y q r", "z", "x p, y q r, z", "x y y -"},
		{api.End - 1, "x p", "y q r", "z", "x p, y q r, z", "x y y -"},
	} {
		name := fmt.Sprint("at ", x.at)
		for team, want := range map[string]string{"x": x.x, "y": x.y, "z": x.z, "w": "w", key(0): key(0)} {
			r, e := At(bounds(), history(), team, x.at)
			equal(t, name, e, api.OK)
			equal(t, name, shown(r), want)
		}
		all, e := All(bounds(), history(), x.at)
		equal(t, name, e, api.OK)
		equal(t, name, shown(all...), x.all)
		for i, player := range strings.Fields("p q r s") {
			owner, e := Owner(bounds(), history(), player, x.at)
			equal(t, name, e, api.OK)
			equal(t, name+": owner of "+player, owner, strings.ReplaceAll(strings.Fields(x.owners)[i], "-", ""))
		}
	}
	var l []api.Move
	for i, player := range strings.Fields("c a d b") {
		l = append(l, api.Move{At: i, Kind: api.MoveAdd, Team: "x", Player: player}, api.Move{At: 10 + i, Kind: api.MoveStash, Team: "x", Player: player})
	}
	slices.SortFunc(l, compareMoves)
	for at, want := range map[int]string{3: "x a b c d", 10: "x a b d / c", 11: "x b d / a c", 12: "x b / a c d", 13: "x / a b c d"} {
		r, _ := At(widest(), l, "x", at)
		equal(t, "rising", shown(r), want)
	}
}

// P5.2: Free and FreeFrom, moment by moment.
func TestFree(t *testing.T) {
	for _, x := range []struct {
		at   int
		free string
		from string // of p, q, r, s; - for those whom somebody has
	}{
		{0, "s q p r", "0 0 0 0"},
		{10, "s p", "10 - - 10"},
		{30, "s", "- - - 30"},
		{50, "s", "- 150 - 50"},
		{60, "s", "- 150 160 60"},
		{149, "s", "- 150 160 149"},
		{150, "s q", "- 150 160 150"},
		{159, "s q", "- 159 160 159"},
		{160, "s q", "- 160 - 160"},
		{170, "s", "- - - 170"},
	} {
		name := fmt.Sprint("at ", x.at)
		free, e := Free(bounds(), history(), strings.Fields("s q p r"), x.at)
		equal(t, name, e, api.OK)
		equal(t, name, strings.Join(free, " "), x.free)
		var from []string
		for _, player := range strings.Fields("p q r s") {
			at, is, e := FreeFrom(bounds(), history(), player, x.at)
			equal(t, name, e, api.OK)
			if is {
				from = append(from, fmt.Sprint(at))
				continue
			}
			from = append(from, "-")
			equal(t, name, at, 0)
		}
		equal(t, name+": FreeFrom", strings.Join(from, " "), x.from)
	}
	free, e := Free(bounds(), history(), strings.Fields("s p s q s"), 60)
	equal(t, "several times", e, api.OK)
	list(t, "several times", free, strings.Fields("s s s"))
	free, e = Free(bounds(), nil, keys(api.MaxPlayers), 0)
	equal(t, "most", e, api.OK)
	list(t, "most", free, keys(api.MaxPlayers))
	b := bounds()
	b.Hold = 0
	free, _ = Free(b, history(), strings.Fields("q"), 50)
	list(t, "no hold", free, strings.Fields("q"))
}

// P5.2: who is dropped late is free after the last moment only.
func TestFreeFromLate(t *testing.T) {
	b := bounds()
	b.Hold = api.MaxHold
	late := fmt.Sprint(api.End - 1)
	l := moves("0 add x p", late+" drop x p")
	at, is, e := FreeFrom(b, l, "p", api.End-1)
	equal(t, "late", e, api.OK)
	equal(t, "late", is, true)
	equal(t, "late", at, api.End-1+api.MaxHold)
	free, _ := Free(b, l, []string{"p"}, api.End-1)
	list(t, "late", free, nil)
}

// P5.2: Adds.
func TestAdds(t *testing.T) {
	b := api.Bounds{Most: 3, Hurt: 0, Adds: 3, Hold: 10}
	for _, week := range []int{0, 1, 500} {
		l := weekMoves(week, "5 add x p", "5 add y p", "6 drop x p", "7 add x q", "7 add x r", "8 add x s", "604800000 add x s", "604800001 add y t")
		for _, x := range []struct{ at, x, y int }{
			{0, 3, 3}, {4, 3, 3}, {5, 2, 3}, {6, 2, 3}, {7, 0, 3}, {8, 0, 3}, {604_799_999, 0, 3},
			{604_800_000, 2, 3}, {604_800_001, 2, 2}, {2*604_800_000 - 1, 2, 2}, {2 * 604_800_000, 3, 3},
		} {
			for team, want := range map[string]int{"x": x.x, "y": x.y, "z": 3} {
				left, e := Adds(b, l, team, x.at+week*api.WeekLong)
				equal(t, "Adds", e, api.OK)
				equal(t, fmt.Sprint("Adds of ", team, " at ", x.at), left, want)
			}
		}
	}
	b.Adds = 0
	left, e := Adds(b, moves("0 add x p"), "x", 0)
	equal(t, "no adds", e, api.OK)
	equal(t, "no adds", left, 0)
}

// P5.2: errors of what is asked for.
func TestFollowErrors(t *testing.T) {
	long := key(0) + "k"
	for _, name := range []string{"", "X", "-", "1x", "x ", "x\n", "é", long} {
		for _, at := range []int{-1, 0} {
			r, e := At(bounds(), history(), name, at)
			equal(t, "At", e, api.ErrName)
			equal(t, "At", shown(r), "")
			owner, e := Owner(bounds(), history(), name, at)
			equal(t, "Owner", e, api.ErrName)
			equal(t, "Owner", owner, "")
			_, _, e = FreeFrom(bounds(), history(), name, at)
			equal(t, "FreeFrom", e, api.ErrName)
			_, e = Adds(bounds(), history(), name, at)
			equal(t, "Adds", e, api.ErrName)
			free, e := Free(bounds(), history(), []string{"s", name}, at)
			equal(t, "Free", e, api.ErrName)
			list(t, "Free", free, nil)
		}
	}
	_, e := Free(bounds(), history(), make([]string, api.MaxPlayers+1), -1)
	equal(t, "too many players", e, api.ErrLarge)
	for _, at := range []int{math.MinInt, -1, api.End, math.MaxInt} {
		_, e := At(bounds(), history(), "x", at)
		equal(t, "At", e, api.ErrArg)
		_, e = All(bounds(), history(), at)
		equal(t, "All", e, api.ErrArg)
		_, e = Owner(bounds(), history(), "p", at)
		equal(t, "Owner", e, api.ErrArg)
		_, e = Free(bounds(), history(), []string{"p"}, at)
		equal(t, "Free", e, api.ErrArg)
		_, _, e = FreeFrom(bounds(), history(), "p", at)
		equal(t, "FreeFrom", e, api.ErrArg)
		_, e = Adds(bounds(), history(), "x", at)
		equal(t, "Adds", e, api.ErrArg)
	}
}

// followed is the moves that were not refused; all else is asked of these anew.
type followed struct {
	b    api.Bounds
	done []api.Move
}

// last returns the last move with a player that is of one of some kinds.
func (f followed) last(player string, kinds ...int) (api.Move, bool) {
	for _, x := range slices.Backward(f.done) {
		if x.Player == player && slices.Contains(kinds, x.Kind) {
			return x, true
		}
	}
	return api.Move{}, false
}

func (f followed) owner(player string) string {
	if x, was := f.last(player, api.MoveAdd, api.MoveDrop); was && x.Kind == api.MoveAdd {
		return x.Team
	}
	return ""
}

func (f followed) roster(team string) api.Roster {
	r := api.Roster{Team: team}
	for _, player := range []string{"p", "q", "r", "s", "t"} {
		x, _ := f.last(player, api.MoveAdd, api.MoveDrop, api.MoveStash, api.MoveBack)
		switch {
		case f.owner(player) != team:
		case x.Kind == api.MoveStash:
			r.Hurt = append(r.Hurt, player)
		default:
			r.Players = append(r.Players, player)
		}
	}
	return r
}

func (f followed) adds(team string, at int) int {
	left := f.b.Adds
	for _, x := range f.done {
		if x.Kind == api.MoveAdd && x.Team == team && (x.At < api.WeekLong) == (at < api.WeekLong) {
			left--
		}
	}
	return left
}

func (f followed) onHold(player string, at int) bool {
	x, was := f.last(player, api.MoveDrop)
	return was && at-x.At < f.b.Hold
}

func (f followed) why(x api.Move) api.Errno {
	r, owner := f.roster(x.Team), f.owner(x.Player)
	isHurt := slices.Contains(r.Hurt, x.Player)
	full := len(r.Players) == f.b.Most
	switch {
	case x.Kind == api.MoveAdd && owner == x.Team:
		return api.ErrTwice
	case x.Kind == api.MoveAdd && owner != "":
		return api.ErrConflict
	case x.Kind == api.MoveAdd && f.onHold(x.Player, x.At):
		return api.ErrState
	case x.Kind == api.MoveAdd && f.adds(x.Team, x.At) == 0:
		return api.ErrRule
	case x.Kind != api.MoveAdd && owner != x.Team:
		return api.ErrNone
	case x.Kind == api.MoveStash && isHurt, x.Kind == api.MoveBack && !isHurt:
		return api.ErrNone
	case x.Kind == api.MoveStash && len(r.Hurt) == f.b.Hurt:
		return api.ErrFull
	case (x.Kind == api.MoveAdd || x.Kind == api.MoveBack) && full:
		return api.ErrFull
	}
	return api.OK
}

// P5.2: all that is asked of moves, also against a plain model.
func TestFollowPlainly(t *testing.T) {
	random := rand.New(rand.NewPCG(52, 1))
	seen := map[api.Errno]int{}
	for range 300 {
		b, l := anyMoves(random)
		f, teams := followed{b: b}, []string{}
		var numbers []int
		var reasons []api.Errno
		asked := api.WeekLong - 100
		for i, x := range l {
			for ; asked < x.At; asked += 1 + random.IntN(20) {
				askAll(t, f, l, teams, asked)
			}
			if !slices.Contains(teams, x.Team) {
				teams = append(teams, x.Team)
			}
			why := f.why(x)
			seen[why]++
			if why != api.OK {
				numbers, reasons = append(numbers, i), append(reasons, why)
				continue
			}
			f.done = append(f.done, x)
		}
		askAll(t, f, l, teams, api.WeekLong+500)
		n, w, e := Refused(b, l)
		equal(t, "Refused", e, api.OK)
		list(t, "Refused", n, numbers)
		list(t, "Refused", w, reasons)
	}
	for _, why := range []api.Errno{api.OK, api.ErrTwice, api.ErrConflict, api.ErrState, api.ErrRule, api.ErrFull, api.ErrNone} {
		if seen[why] < 50 {
			t.Errorf("only %d moves with %d", seen[why], why)
		}
	}
}

// askAll asks all of moves at a moment, up to which those of the model were done.
func askAll(t *testing.T, f followed, l []api.Move, teams []string, at int) {
	t.Helper()
	var all []api.Roster
	for _, team := range []string{"x", "y", "z"} {
		r, _ := At(f.b, l, team, at)
		equal(t, "At", shown(r), shown(f.roster(team)))
		if slices.Contains(teams, team) {
			all = append(all, f.roster(team))
		}
		left, _ := Adds(f.b, l, team, at)
		equal(t, "Adds", left, f.adds(team, at))
	}
	got, e := All(f.b, l, at)
	equal(t, "All", e, api.OK)
	equal(t, "All", shown(got...), shown(all...))
	equal(t, "CheckRosters of All", CheckRosters(f.b, got), api.OK)
	var free []string
	for _, player := range []string{"t", "r", "s", "q", "p"} {
		owner, _ := Owner(f.b, l, player, at)
		equal(t, "Owner", owner, f.owner(player))
		from, is, _ := FreeFrom(f.b, l, player, at)
		equal(t, "FreeFrom", is, f.owner(player) == "")
		if is && !f.onHold(player, at) {
			free = append(free, player)
			equal(t, "FreeFrom", from, at)
		} else if is {
			equal(t, "FreeFrom", f.onHold(player, from-1) && !f.onHold(player, from), true)
		}
	}
	those, _ := Free(f.b, l, []string{"t", "r", "s", "q", "p"}, at)
	list(t, "Free", those, free)
}

// P5.2, what follows: without refused moves all rosters are as they were; nobody is ever in two rosters.
func TestWithoutRefused(t *testing.T) {
	random := rand.New(rand.NewPCG(52, 2))
	for range 200 {
		b, l := anyMoves(random)
		numbers, _, _ := Refused(b, l)
		var rest []api.Move
		for i, x := range l {
			if !slices.Contains(numbers, i) {
				rest = append(rest, x)
			}
		}
		equal(t, "none is refused then", refusals(t, b, rest), "")
		for at := api.WeekLong - 60; at < api.WeekLong+200; at += 1 + random.IntN(9) {
			for _, team := range []string{"x", "y", "z"} {
				was, _ := At(b, l, team, at)
				is, _ := At(b, rest, team, at)
				equal(t, "without refused moves", shown(is), shown(was))
			}
			all, _ := All(b, l, at)
			there := map[string]bool{}
			for _, r := range all {
				for _, player := range slices.Concat(r.Players, r.Hurt) {
					equal(t, player+" is in two rosters", there[player], false)
					there[player] = true
				}
			}
		}
	}
}
