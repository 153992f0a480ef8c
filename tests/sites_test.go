package tests

import (
	"fmt"
	"math"
	"slices"
	"testing"

	"loop.example/g00183/impl"
)

// net is what is handed to Distances, TreeOf and Spread alike.
type net struct {
	n     int
	roads []impl.Road
	root  int
}

func (w net) String() string {
	return fmt.Sprintf("%d, %v, %d", w.n, w.roads, w.root)
}

// roadsOf takes the numbers of the roads three by three.
func roadsOf(numbers ...int) []impl.Road {
	var roads []impl.Road
	for three := range slices.Chunk(numbers, 3) {
		roads = append(roads, impl.Road{A: three[0], B: three[1], Cost: three[2]})
	}
	return roads
}

// pairsInOrder is all that a net of n sites can have of roads, as they must ascend.
func pairsInOrder(n int) [][2]int {
	var pairs [][2]int
	for a := range n {
		for b := a + 1; b < n; b++ {
			pairs = append(pairs, [2]int{a, b})
		}
	}
	return pairs
}

// roadsRightByHand goes through all pairs in order, and takes each road away where its pair comes.
func roadsRightByHand(n int, roads []impl.Road) bool {
	if !slices.Contains(fromTo(1, 6), n) || len(roads) > 12 {
		return false
	}
	left := roads
	for _, pair := range pairsInOrder(n) {
		if len(left) > 0 && left[0].A == pair[0] && left[0].B == pair[1] && slices.Contains(upTo(100), left[0].Cost) {
			left = left[1:]
		}
	}
	return len(left) == 0
}

func (w net) rightByHand() bool {
	return roadsRightByHand(w.n, w.roads) && slices.Contains(fromTo(0, w.n-1), w.root)
}

// everyWay hands out each way from the root that comes to no site twice, and what it costs.
func (w net) everyWay(hand func(way []int, cost int)) {
	costs := map[[2]int]int{}
	for _, road := range w.roads {
		costs[[2]int{road.A, road.B}] = road.Cost
		costs[[2]int{road.B, road.A}] = road.Cost
	}
	var goOn func(way []int, cost int)
	goOn = func(way []int, cost int) {
		hand(way, cost)
		for to := range w.n {
			more, ok := costs[[2]int{way[len(way)-1], to}]
			if ok && !slices.Contains(way, to) {
				goOn(slices.Concat(way, []int{to}), cost+more)
			}
		}
	}
	goOn([]int{w.root}, 0)
}

// byHand tries every way, and keeps the least cost and the least site ahead of all that cost as little.
func (w net) byHand() (far, tree []int) {
	if !w.rightByHand() {
		return nil, nil
	}
	for range w.n {
		far = append(far, -1)
		tree = append(tree, -1)
	}
	w.everyWay(func(way []int, cost int) {
		site := way[len(way)-1]
		if site == w.root {
			far[site] = 0
			return
		}
		ahead := way[len(way)-2]
		switch {
		case far[site] == -1 || cost < far[site]:
			far[site], tree[site] = cost, ahead
		case cost == far[site]:
			tree[site] = min(tree[site], ahead)
		}
	})
	return far, tree
}

// spreadByHand goes from each site back to the root: what is lost on that way keeps it from the site.
func (w net) spreadByHand(lost [][]int) ([]int, int) {
	_, tree := w.byHand()
	has := func(site int) bool {
		for site != w.root {
			ahead := tree[site]
			if ahead == -1 || slices.ContainsFunc(lost, func(pair []int) bool { return slices.Equal(pair, []int{ahead, site}) }) {
				return false
			}
			site = ahead
		}
		return true
	}
	var having []int
	sent := 0
	for site, ahead := range tree {
		if has(site) {
			having = append(having, site)
		}
		if ahead != -1 && has(ahead) {
			sent++
		}
	}
	return having, sent
}

func wantRoadsOk(t *testing.T, n int, roads []impl.Road, want bool) {
	t.Helper()
	if got := impl.RoadsOk(n, roads); got != want {
		t.Errorf("RoadsOk of %d, %v: %t; want %t", n, roads, got, want)
	}
}

func wantDistances(t *testing.T, w net, want ...int) {
	t.Helper()
	if got := impl.Distances(w.n, w.roads, w.root); !slices.Equal(got, want) {
		t.Errorf("Distances of %v: %v; want %v", w, got, want)
	}
}

func wantTree(t *testing.T, w net, want ...int) {
	t.Helper()
	if got := impl.TreeOf(w.n, w.roads, w.root); !slices.Equal(got, want) {
		t.Errorf("TreeOf of %v: %v; want %v", w, got, want)
	}
}

func wantChildren(t *testing.T, tree []int, site int, want ...int) {
	t.Helper()
	if got := impl.Children(tree, site); !slices.Equal(got, want) {
		t.Errorf("Children of %v, %d: %v; want %v", tree, site, got, want)
	}
}

func wantSpread(t *testing.T, w net, lost [][]int, wantSent int, want ...int) {
	t.Helper()
	got, sent := impl.Spread(w.n, w.roads, w.root, lost)
	if !slices.Equal(got, want) || sent != wantSent {
		t.Errorf("Spread of %v, %v: %v, %d; want %v, %d", w, lost, got, sent, want, wantSent)
	}
}

// wantAsByHand holds all that is told of a net against the reckoning by hand.
func wantAsByHand(t *testing.T, w net, lost [][]int) {
	t.Helper()
	far, tree := w.byHand()
	wantDistances(t, w, far...)
	wantTree(t, w, tree...)
	having, sent := w.spreadByHand(lost)
	wantSpread(t, w, lost, sent, having...)
}

// wantPromise asks for what the promise says, of what the program itself answers.
func wantPromise(t *testing.T, w net) {
	t.Helper()
	far := impl.Distances(w.n, w.roads, w.root)
	tree := impl.TreeOf(w.n, w.roads, w.root)
	having, sent := impl.Spread(w.n, w.roads, w.root, nil)
	if len(far) != w.n || len(tree) != w.n {
		t.Errorf("%v: distances %v, tree %v; want %d of each", w, far, tree, w.n)
		return
	}
	costs := map[[2]int]int{}
	for _, road := range w.roads {
		costs[[2]int{road.A, road.B}] = road.Cost
		costs[[2]int{road.B, road.A}] = road.Cost
		if (far[road.A] == -1) != (far[road.B] == -1) || far[road.A]+road.Cost < far[road.B] || far[road.B]+road.Cost < far[road.A] {
			t.Errorf("%v: %v makes the distances %v shorter", w, road, far)
		}
	}
	var reached []int
	for site, ahead := range tree {
		if far[site] != -1 {
			reached = append(reached, site)
		}
		if site == w.root || far[site] == -1 {
			if ahead != -1 {
				t.Errorf("%v: %d is ahead of %d in %v", w, ahead, site, tree)
			}
			continue
		}
		cost, ok := costs[[2]int{ahead, site}]
		if !ok || far[ahead]+cost != far[site] {
			t.Errorf("%v: the tree %v does not go by the distances %v to %d", w, tree, far, site)
		}
	}
	if !slices.Equal(having, reached) || sent != len(reached)-1 {
		t.Errorf("%v: said at the root it comes to %v, sent %d times; want %v, once to each", w, having, sent, reached)
	}
}

// everyNet hands out all nets of n sites whose roads cost what is told, seen from each site.
func everyNet(n int, costs []int, hand func(w net)) {
	pairs := pairsInOrder(n)
	var choose func(at int, roads []impl.Road)
	choose = func(at int, roads []impl.Road) {
		if at == len(pairs) {
			for root := range n {
				hand(net{n, roads, root})
			}
			return
		}
		choose(at+1, roads)
		for _, cost := range costs {
			choose(at+1, slices.Concat(roads, []impl.Road{{A: pairs[at][0], B: pairs[at][1], Cost: cost}}))
		}
	}
	choose(0, nil)
}

func drawnNet(l *lot, mostCost int) net {
	w := net{n: 1 + l.below(impl.MaxSites)}
	w.root = l.below(w.n)
	thin := 1 + l.below(4)
	for _, pair := range pairsInOrder(w.n) {
		if len(w.roads) < 12 && l.below(thin) == 0 {
			w.roads = append(w.roads, impl.Road{A: pair[0], B: pair[1], Cost: 1 + l.below(mostCost)})
		}
	}
	return w
}

// drawnLost has pairs, and among them lists that are none.
func drawnLost(l *lot) [][]int {
	var lost [][]int
	for range l.below(6) {
		var list []int
		size := []int{2, 2, 2, 2, 2, 0, 1, 3}[l.below(8)]
		for range size {
			list = append(list, l.below(8)-1)
		}
		lost = append(lost, list)
	}
	return lost
}

func wildNumbers() []int {
	return []int{math.MinInt, math.MinInt + 1, -2, -1, 0, 1, 2, 3, 4, 5, 6, 7, 99, 100, 101, math.MaxInt - 1, math.MaxInt}
}

// ladder has ways that are as short: to 3 by 1 and by 2, to 5 by 3 and by 4.
func ladder(root int) net {
	return net{6, roadsOf(0, 1, 2, 0, 2, 1, 1, 3, 1, 2, 3, 2, 2, 4, 1, 3, 5, 1, 4, 5, 2), root}
}

// branches is a tree by its roads: 0 to 1 and 2, 1 to 3 and 4; 5 stands alone.
func branches() net {
	return net{6, roadsOf(0, 1, 1, 0, 2, 1, 1, 3, 1, 1, 4, 1), 0}
}

// wrongNets are right but for one thing each.
func wrongNets() []net {
	line := roadsOf(0, 1, 1, 1, 2, 1)
	all := roadsOf(0, 1, 1, 0, 2, 1, 0, 3, 1, 0, 4, 1, 0, 5, 1, 1, 2, 1, 1, 3, 1, 1, 4, 1, 1, 5, 1, 2, 3, 1, 2, 4, 1, 2, 5, 1, 3, 4, 1)
	nets := []net{
		{0, nil, 0}, {-1, nil, 0}, {7, nil, 0}, {math.MinInt, nil, 0}, {math.MaxInt, nil, 0}, {0, nil, -1},
		{6, all, 0},
		{2, line, 0},
		{3, roadsOf(0, 0, 1), 0}, {3, roadsOf(1, 0, 1), 0}, {3, roadsOf(-1, 0, 1), 0}, {3, roadsOf(0, 3, 1), 0},
		{3, roadsOf(0, 1, 0), 0}, {3, roadsOf(0, 1, 101), 0}, {3, roadsOf(0, 1, -1), 0},
		{3, roadsOf(0, 1, 1, 0, 1, 1), 0}, {3, roadsOf(0, 1, 1, 0, 1, 2), 0}, {3, roadsOf(1, 2, 1, 0, 1, 1), 0}, {3, roadsOf(0, 2, 1, 0, 1, 1), 0},
	}
	for _, root := range []int{-1, -2, 3, 4, math.MinInt, math.MaxInt} {
		nets = append(nets, net{3, line, root})
	}
	return append(nets, net{1, nil, 1}, net{1, nil, -1}, net{6, nil, 6})
}

func TestSiteConstants(t *testing.T) {
	if impl.MaxSites != 6 {
		t.Errorf("MaxSites is %d; want 6", impl.MaxSites)
	}
}

func TestRoadsOkSites(t *testing.T) {
	for _, none := range [][]impl.Road{nil, {}} {
		for _, n := range []int{1, 2, 5, impl.MaxSites} {
			wantRoadsOk(t, n, none, true)
		}
		for _, n := range []int{0, impl.MaxSites + 1, -1, -6, math.MinInt, math.MaxInt} {
			wantRoadsOk(t, n, none, false)
		}
	}
	road := roadsOf(0, 1, 1)
	for _, n := range []int{2, 3, 6} {
		wantRoadsOk(t, n, road, true)
	}
	for _, n := range []int{1, 0, 7, -1, math.MinInt, math.MaxInt} {
		wantRoadsOk(t, n, road, false)
	}
}

func TestRoadsOkCount(t *testing.T) {
	pairs := pairsInOrder(6)
	for count := range len(pairs) + 1 {
		for from := 0; from+count <= len(pairs); from++ {
			var roads []impl.Road
			for _, pair := range pairs[from : from+count] {
				roads = append(roads, impl.Road{A: pair[0], B: pair[1], Cost: 1})
			}
			wantRoadsOk(t, 6, roads, count <= 12)
		}
	}
}

func TestRoadsOkEnds(t *testing.T) {
	for n := 1; n <= 6; n++ {
		for _, a := range wildNumbers() {
			for _, b := range wildNumbers() {
				wantRoadsOk(t, n, roadsOf(a, b, 1), 0 <= a && a < b && b < n)
			}
		}
	}
	wantRoadsOk(t, 3, roadsOf(1, 1, 1), false)
	wantRoadsOk(t, 3, roadsOf(2, 1, 1), false)
	wantRoadsOk(t, 3, roadsOf(-1, 1, 1), false)
	wantRoadsOk(t, 3, roadsOf(0, 2, 1), true)
	wantRoadsOk(t, 3, roadsOf(0, 3, 1), false)
}

func TestRoadsOkCost(t *testing.T) {
	for _, cost := range []int{1, 2, 99, 100} {
		wantRoadsOk(t, 2, roadsOf(0, 1, cost), true)
	}
	for _, cost := range []int{0, 101, -1, -100, math.MinInt, math.MaxInt} {
		wantRoadsOk(t, 2, roadsOf(0, 1, cost), false)
		wantRoadsOk(t, 3, roadsOf(0, 1, 1, 1, 2, cost), false)
	}
}

func TestRoadsOkOrder(t *testing.T) {
	wantRoadsOk(t, 4, roadsOf(0, 1, 9, 0, 2, 1, 1, 2, 9, 2, 3, 1), true)
	wantRoadsOk(t, 4, roadsOf(0, 3, 1, 1, 2, 1), true)
	wantRoadsOk(t, 4, roadsOf(0, 1, 1, 0, 1, 1), false)
	wantRoadsOk(t, 4, roadsOf(0, 1, 1, 0, 1, 2), false)
	wantRoadsOk(t, 4, roadsOf(0, 1, 2, 0, 1, 1), false)
	wantRoadsOk(t, 4, roadsOf(1, 2, 1, 0, 1, 1), false)
	wantRoadsOk(t, 4, roadsOf(1, 2, 1, 0, 3, 1), false)
	wantRoadsOk(t, 4, roadsOf(0, 2, 1, 0, 1, 1), false)
	wantRoadsOk(t, 4, roadsOf(0, 1, 1, 1, 3, 1, 1, 2, 1), false)
	wantRoadsOk(t, 4, roadsOf(0, 1, 1, 1, 3, 1, 0, 2, 1), false)
	wantRoadsOk(t, 4, roadsOf(0, 1, 1, 1, 2, 1, 1, 2, 1, 2, 3, 1), false)
}

func TestRoadsOkAround(t *testing.T) {
	var l lot
	for range 300 {
		w := drawnNet(&l, 100)
		wantRoadsOk(t, w.n, w.roads, true)
		for i := range w.roads {
			for _, number := range wildNumbers() {
				for field := range 3 {
					near := slices.Clone(w.roads)
					*[]*int{&near[i].A, &near[i].B, &near[i].Cost}[field] = number
					wantRoadsOk(t, w.n, near, roadsRightByHand(w.n, near))
				}
			}
			swapped := slices.Clone(w.roads)
			other := l.below(len(swapped))
			swapped[i], swapped[other] = swapped[other], swapped[i]
			wantRoadsOk(t, w.n, swapped, i == other)
			twice := slices.Insert(slices.Clone(w.roads), i, w.roads[i])
			wantRoadsOk(t, w.n, twice, false)
		}
	}
}

func TestDistancesKnown(t *testing.T) {
	wantDistances(t, net{1, nil, 0}, 0)
	wantDistances(t, net{1, []impl.Road{}, 0}, 0)
	wantDistances(t, net{3, nil, 1}, -1, 0, -1)
	wantDistances(t, net{3, roadsOf(0, 1, 4), 0}, 0, 4, -1)
	wantDistances(t, net{3, roadsOf(0, 1, 4), 2}, -1, -1, 0)
	shortcut := roadsOf(0, 1, 3, 0, 3, 10, 1, 2, 3, 2, 3, 3)
	wantDistances(t, net{4, shortcut, 0}, 0, 3, 6, 9)
	wantDistances(t, net{4, shortcut, 3}, 9, 6, 3, 0)
	alike := roadsOf(0, 1, 1, 0, 2, 2, 1, 3, 2, 2, 3, 1)
	wantDistances(t, net{4, alike, 0}, 0, 1, 2, 3)
	wantDistances(t, net{4, alike, 3}, 3, 2, 1, 0)
	back := roadsOf(0, 3, 1, 1, 2, 5, 1, 3, 2)
	wantDistances(t, net{4, back, 0}, 0, 3, 8, 1)
	wantDistances(t, net{4, back, 2}, 8, 5, 0, 7)
	for root, far := range [][]int{{0, 2, 1, 3, 2, 4}, {2, 0, 3, 1, 4, 2}, {1, 3, 0, 2, 1, 3}, {3, 1, 2, 0, 3, 1}, {2, 4, 1, 3, 0, 2}, {4, 2, 3, 1, 2, 0}} {
		wantDistances(t, ladder(root), far...)
	}
	dearest := roadsOf(0, 1, 100, 1, 2, 100, 2, 3, 100, 3, 4, 100, 4, 5, 100)
	wantDistances(t, net{6, dearest, 0}, 0, 100, 200, 300, 400, 500)
	wantDistances(t, net{6, dearest, 5}, 500, 400, 300, 200, 100, 0)
}

func TestDistancesFrom(t *testing.T) {
	line := roadsOf(0, 1, 1, 1, 2, 1)
	wantDistances(t, net{3, line, 0}, 0, 1, 2)
	wantDistances(t, net{3, line, 2}, 2, 1, 0)
	for _, from := range []int{-1, 3, 4, math.MinInt, math.MaxInt} {
		wantDistances(t, net{3, line, from})
	}
}

func TestTreeOfKnown(t *testing.T) {
	wantTree(t, net{1, nil, 0}, -1)
	wantTree(t, net{3, nil, 1}, -1, -1, -1)
	wantTree(t, net{3, roadsOf(0, 1, 4), 1}, 1, -1, -1)
	wantTree(t, net{3, roadsOf(0, 1, 4), 2}, -1, -1, -1)
	shortcut := roadsOf(0, 1, 3, 0, 3, 10, 1, 2, 3, 2, 3, 3)
	wantTree(t, net{4, shortcut, 0}, -1, 0, 1, 2)
	wantTree(t, net{4, shortcut, 3}, 1, 2, 3, -1)
	for root, tree := range [][]int{{-1, 0, 0, 1, 2, 3}, {1, -1, 0, 1, 2, 3}, {2, 0, -1, 2, 2, 3}, {1, 3, 3, -1, 2, 3}, {2, 0, 4, 2, -1, 4}, {1, 3, 3, 5, 5, -1}} {
		wantTree(t, ladder(root), tree...)
	}
}

func TestTreeOfWaysThatAreAsShort(t *testing.T) {
	// Two ways, the one by the lesser site found later, as its first road is the dearer one.
	wantTree(t, net{4, roadsOf(0, 1, 3, 0, 2, 1, 1, 3, 1, 2, 3, 3), 0}, -1, 0, 0, 1)
	wantTree(t, net{4, roadsOf(0, 1, 1, 0, 2, 3, 1, 3, 3, 2, 3, 1), 0}, -1, 0, 0, 1)
	// The road from the root alone is as short as the way by another site: the root is the least, or it is not.
	wantTree(t, net{3, roadsOf(0, 1, 1, 0, 2, 2, 1, 2, 1), 0}, -1, 0, 0)
	wantTree(t, net{3, roadsOf(0, 1, 1, 0, 2, 1, 1, 2, 2), 2}, 2, 0, -1)
	wantTree(t, net{3, roadsOf(0, 1, 2, 0, 2, 1, 1, 2, 1), 1}, 1, -1, 1)
	// Three ways, by one site each.
	wantTree(t, net{5, roadsOf(0, 1, 3, 0, 2, 2, 0, 3, 1, 1, 4, 1, 2, 4, 2, 3, 4, 3), 0}, -1, 0, 0, 0, 1)
	wantTree(t, net{5, roadsOf(0, 1, 1, 0, 2, 2, 0, 3, 3, 1, 4, 3, 2, 4, 2, 3, 4, 1), 4}, 1, 4, 4, 4, -1)
	// Three ways, two of them through one site: its own ways do not count again.
	wantTree(t, net{6, roadsOf(0, 1, 1, 0, 2, 1, 0, 3, 3, 1, 4, 1, 2, 4, 1, 3, 5, 1, 4, 5, 2), 0}, -1, 0, 0, 0, 1, 3)
	// By several sites: a long way of cheap roads against a short one, both as short.
	wantTree(t, net{6, roadsOf(0, 1, 4, 0, 2, 1, 1, 5, 1, 2, 3, 1, 3, 4, 1, 4, 5, 2), 0}, -1, 0, 0, 2, 3, 1)
	wantTree(t, net{6, roadsOf(0, 3, 1, 0, 4, 4, 1, 2, 1, 1, 5, 2, 2, 3, 1, 4, 5, 1), 0}, -1, 2, 3, 0, 0, 1)
	// A cheaper way by a greater site goes ahead of a dearer one by a lesser.
	wantTree(t, net{4, roadsOf(0, 1, 3, 0, 2, 1, 1, 3, 2, 2, 3, 3), 0}, -1, 0, 0, 2)
	// A lesser site that lies behind is not ahead, though a road goes there.
	wantTree(t, net{3, roadsOf(0, 1, 1, 1, 2, 1), 2}, 1, 2, -1)
}

func TestWrongNetsAreToldNothingOf(t *testing.T) {
	for _, w := range wrongNets() {
		if w.rightByHand() {
			t.Fatalf("%v is right", w)
		}
		wantDistances(t, w)
		wantTree(t, w)
		wantSpread(t, w, nil, 0)
		wantSpread(t, w, [][]int{{0, 1}}, 0)
	}
}

func TestChildrenKnown(t *testing.T) {
	tree := []int{-1, 0, 0, 1, 0, -1}
	wantChildren(t, tree, 0, 1, 2, 4)
	wantChildren(t, tree, 1, 3)
	for _, site := range []int{2, 3, 4, 5} {
		wantChildren(t, tree, site)
	}
	wantChildren(t, []int{3, 3, 3, -1}, 3, 0, 1, 2)
	wantChildren(t, []int{-1}, 0)
	wantChildren(t, []int{0}, 0, 0)
	wantChildren(t, []int{1, 0}, 0, 1)
	wantChildren(t, []int{1, 0}, 1, 0)
	longer := slices.Repeat([]int{9}, 10)
	wantChildren(t, longer, 9, fromTo(0, 9)...)
}

func TestChildrenOfNoSite(t *testing.T) {
	for _, none := range [][]int{nil, {}} {
		for _, site := range wildNumbers() {
			wantChildren(t, none, site)
		}
	}
	wild := wildNumbers()
	for _, site := range []int{-1, -2, len(wild), len(wild) + 1, 99, math.MinInt, math.MaxInt} {
		wantChildren(t, wild, site)
	}
	for _, site := range []int{-1, 3, 4, math.MinInt, math.MaxInt} {
		wantChildren(t, []int{-1, site, 0}, site)
		wantChildren(t, []int{-1, site, 0}, 0, 2)
	}
}

func TestChildrenOfEntriesThatAreNoSites(t *testing.T) {
	wild := wildNumbers()
	for site := range wild {
		place := slices.Index(wild, site)
		if place < 0 {
			wantChildren(t, wild, site)
			continue
		}
		wantChildren(t, wild, site, place)
	}
}

func TestSpreadKnown(t *testing.T) {
	wantSpread(t, net{1, nil, 0}, nil, 0, 0)
	wantSpread(t, net{1, nil, 0}, [][]int{{0, 0}}, 0, 0)
	wantSpread(t, net{3, nil, 1}, nil, 0, 1)
	wantSpread(t, net{3, roadsOf(0, 1, 4), 1}, nil, 1, 0, 1)
	wantSpread(t, net{3, roadsOf(0, 1, 4), 2}, nil, 0, 2)
	wantSpread(t, branches(), nil, 4, 0, 1, 2, 3, 4)
	wantSpread(t, branches(), [][]int{}, 4, 0, 1, 2, 3, 4)
	for root := range 6 {
		wantSpread(t, ladder(root), nil, 5, 0, 1, 2, 3, 4, 5)
	}
}

func TestSpreadLost(t *testing.T) {
	wantSpread(t, branches(), [][]int{{0, 1}}, 2, 0, 2)
	wantSpread(t, branches(), [][]int{{0, 2}}, 4, 0, 1, 3, 4)
	wantSpread(t, branches(), [][]int{{1, 3}}, 4, 0, 1, 2, 4)
	wantSpread(t, branches(), [][]int{{0, 1}, {0, 2}}, 2, 0)
	wantSpread(t, branches(), [][]int{{0, 1}, {1, 3}}, 2, 0, 2)
	wantSpread(t, branches(), [][]int{{1, 4}, {0, 2}, {1, 3}}, 4, 0, 1)
	line := net{5, roadsOf(0, 1, 1, 1, 2, 1, 2, 3, 1, 3, 4, 1), 0}
	wantSpread(t, line, [][]int{{0, 1}}, 1, 0)
	wantSpread(t, line, [][]int{{2, 3}}, 3, 0, 1, 2)
	wantSpread(t, line, [][]int{{3, 4}}, 4, 0, 1, 2, 3)
	// What comes from the root by another road of the net does not come there when the tree's own is lost.
	around := net{3, roadsOf(0, 1, 1, 0, 2, 1, 1, 2, 1), 0}
	wantSpread(t, around, [][]int{{0, 2}}, 2, 0, 1)
}

func TestSpreadLosesNothingElse(t *testing.T) {
	for _, list := range [][]int{
		{1, 0}, {3, 1}, {2, 3}, {0, 3}, {0, 5}, {5, 0}, {0, 0}, {-1, 0}, {0, -1}, {0, 6}, {math.MinInt, math.MaxInt}, {math.MaxInt, 1},
		nil, {}, {0}, {1}, {0, 1, 1}, {0, 1, 2}, {0, 0, 1}, {1, 3, 4}, {0, 1, 0, 1},
	} {
		wantSpread(t, branches(), [][]int{list}, 4, 0, 1, 2, 3, 4)
		wantSpread(t, branches(), [][]int{list, list}, 4, 0, 1, 2, 3, 4)
		wantSpread(t, branches(), [][]int{list, {1, 3}}, 4, 0, 1, 2, 4)
		wantSpread(t, branches(), [][]int{{1, 3}, list}, 4, 0, 1, 2, 4)
	}
	wantSpread(t, branches(), [][]int{{0}, {1}}, 4, 0, 1, 2, 3, 4)
	wantSpread(t, branches(), [][]int{{0, 1}, {0, 1}}, 2, 0, 2)
	wantSpread(t, branches(), slices.Repeat([][]int{{1, 4}}, 50), 4, 0, 1, 2, 3)
}

func TestSpreadTakesItsPartOfTheTree(t *testing.T) {
	var l lot
	for range 1500 {
		w := drawnNet(&l, 3)
		_, tree := w.byHand()
		for site, ahead := range tree {
			if ahead == -1 {
				continue
			}
			all, _ := impl.Spread(w.n, w.roads, w.root, nil)
			var kept []int
			sent := 0
			for _, other := range all {
				below := other
				for below != w.root && below != site {
					below = tree[below]
				}
				if below == w.root {
					kept = append(kept, other)
				}
				if other != w.root && (below == w.root || other == site) {
					sent++
				}
			}
			wantSpread(t, w, [][]int{{ahead, site}}, sent, kept...)
			wantSpread(t, w, [][]int{{site, ahead}}, len(all)-1, all...)
		}
	}
}

func TestSitesInEverySmallNet(t *testing.T) {
	var l lot
	for i, costs := range [][]int{{1}, {1, 50, 100}, {1, 2, 3, 4}, {1, 2, 3}, {1}} {
		everyNet(i+1, costs, func(w net) {
			wantPromise(t, w)
			wantAsByHand(t, w, nil)
			wantAsByHand(t, w, drawnLost(&l))
		})
	}
}

func TestSitesInDrawnNets(t *testing.T) {
	for _, mostCost := range []int{1, 2, 4, 100} {
		var l lot
		for range 1500 {
			w := drawnNet(&l, mostCost)
			wantPromise(t, w)
			wantAsByHand(t, w, nil)
			wantAsByHand(t, w, drawnLost(&l))
		}
	}
}

func TestSitesAround(t *testing.T) {
	var l lot
	for range 400 {
		w := drawnNet(&l, 3)
		for _, number := range wildNumbers() {
			lost := drawnLost(&l)
			wantAsByHand(t, net{number, w.roads, w.root}, lost)
			wantAsByHand(t, net{w.n, w.roads, number}, lost)
			if len(w.roads) == 0 {
				continue
			}
			near := slices.Clone(w.roads)
			road := &near[l.below(len(near))]
			*[]*int{&road.A, &road.B, &road.Cost}[l.below(3)] = number
			wantAsByHand(t, net{w.n, near, w.root}, lost)
		}
	}
}

func TestChildrenTellTheTreeAgain(t *testing.T) {
	var l lot
	for range 2000 {
		tree := make([]int, l.below(9))
		for i := range tree {
			tree[i] = l.below(len(tree)+3) - 2
		}
		again := slices.Repeat([]int{-1}, len(tree))
		for site := range tree {
			for _, child := range impl.Children(tree, site) {
				again[child] = site
			}
		}
		for child, ahead := range tree {
			if ahead >= len(tree) || ahead < 0 {
				ahead = -1
			}
			if again[child] != ahead {
				t.Errorf("Children of %v tell %v", tree, again)
			}
		}
	}
}

// roomy is a list with spare room on both sides that the test can look at.
type roomy[T any] struct {
	list   []T
	whole  []T
	before []T
}

func newRoomy[T any](list []T, spare T) roomy[T] {
	whole := slices.Concat([]T{spare, spare}, list, slices.Repeat([]T{spare}, 20))
	return roomy[T]{whole[2 : 2+len(list)], whole, slices.Clone(whole)}
}

func (r roomy[T]) unchanged(t *testing.T, call string, same func(a, b T) bool) {
	t.Helper()
	if !slices.EqualFunc(r.whole, r.before, same) {
		t.Errorf("%s: its argument became %v; was %v", call, r.whole, r.before)
	}
}

func sameNumber(a, b int) bool { return a == b }

func sameRoad(a, b impl.Road) bool { return a == b }

// aliased fails when an answer lies in the memory of one of the lists.
func aliased(t *testing.T, call string, answer []int, lists ...[]int) {
	t.Helper()
	for _, list := range lists {
		if overlap(answer, list) {
			t.Errorf("%s: the answer %v shares memory with %v", call, answer, list)
		}
	}
}

func TestSitesLeaveRoadsAlone(t *testing.T) {
	nets := append(wrongNets(), branches(), ladder(0), ladder(5), net{1, nil, 0}, net{3, roadsOf(1, 2, 1), 2})
	for _, w := range nets {
		call := w.String()
		roads := newRoomy(w.roads, impl.Road{A: 0, B: 1, Cost: 1})
		impl.RoadsOk(w.n, roads.list)
		far := impl.Distances(w.n, roads.list, w.root)
		tree := impl.TreeOf(w.n, roads.list, w.root)
		having, _ := impl.Spread(w.n, roads.list, w.root, nil)
		roads.unchanged(t, call, sameRoad)
		aliased(t, call, far, tree, having)
		aliased(t, call, tree, having)
		aliased(t, call, impl.Distances(w.n, roads.list, w.root), far)
		aliased(t, call, impl.TreeOf(w.n, roads.list, w.root), tree)
	}
}

func TestChildrenLeaveTheTreeAlone(t *testing.T) {
	for _, list := range [][]int{nil, {0}, {-1, 0, 0, 1}, {1, 2, 3, 0}, {0, 0, 0, 0, 0}, {1, 1, 1}} {
		tree := newRoomy(list, 0)
		for site := -2; site <= len(list)+1; site++ {
			call := fmt.Sprintf("Children of %v, %d", list, site)
			children := impl.Children(tree.list, site)
			tree.unchanged(t, call, sameNumber)
			aliased(t, call, children, tree.whole)
			aliased(t, call, children, impl.Children(tree.list, site))
		}
	}
}

func TestSpreadLeavesLostAlone(t *testing.T) {
	lists := [][]int{{3, 4}, {0, 1}, nil, {1}, {1, 3}, {2, 1, 0}, {1, 0}, {0, 1}}
	for _, w := range []net{branches(), ladder(0), ladder(1), {1, nil, 0}, {0, nil, 0}, {3, nil, 3}} {
		var inner []roomy[int]
		var handed [][]int
		for _, list := range lists {
			inner = append(inner, newRoomy(list, 0))
			handed = append(handed, inner[len(inner)-1].list)
		}
		spare := newRoomy([]int{0, 2}, 0)
		lost := newRoomy(handed, spare.list)
		call := fmt.Sprintf("Spread of %v, %v", w, lists)
		having, _ := impl.Spread(w.n, w.roads, w.root, lost.list)
		sameList := func(a, b []int) bool { return slices.Equal(a, b) && cap(a) == cap(b) && (cap(a) == 0 || overlap(a, b)) }
		lost.unchanged(t, call, sameList)
		for _, list := range append(inner, spare) {
			list.unchanged(t, call, sameNumber)
			aliased(t, call, having, list.whole)
		}
	}
}

func TestSpreadDoesNotLookIntoSpareRoom(t *testing.T) {
	lost := [][]int{{0, 1}, {0, 2}}
	wantSpread(t, branches(), lost[:0], 4, 0, 1, 2, 3, 4)
	wantSpread(t, branches(), lost[:1], 2, 0, 2)
	pair := []int{0, 1}
	wantSpread(t, branches(), [][]int{pair[:1]}, 4, 0, 1, 2, 3, 4)
	roads := roadsOf(0, 1, 1, 0, 2, 1)
	wantDistances(t, net{3, roads[:1], 0}, 0, 1, -1)
	wantRoadsOk(t, 2, roads[:1], true)
	tree := []int{-1, 0, 0}
	wantChildren(t, tree[:2], 0, 1)
}

func TestSitesKeepNothing(t *testing.T) {
	first := impl.Distances(6, ladder(0).roads, 0)
	for range 3 {
		wantDistances(t, ladder(0), 0, 2, 1, 3, 2, 4)
		wantDistances(t, net{7, nil, 0})
		wantTree(t, ladder(0), -1, 0, 0, 1, 2, 3)
		wantTree(t, net{3, roadsOf(1, 0, 1), 0})
		wantSpread(t, branches(), [][]int{{0, 1}}, 2, 0, 2)
		wantSpread(t, branches(), nil, 4, 0, 1, 2, 3, 4)
		impl.Distances(6, ladder(0).roads, 0)[1] = 99
		impl.TreeOf(6, ladder(0).roads, 0)[1] = 5
		having, _ := impl.Spread(6, branches().roads, 0, nil)
		having[0] = 99
		impl.Children([]int{-1, 0}, 0)[0] = 99
		wantChildren(t, []int{-1, 0}, 0, 1)
	}
	if !slices.Equal(first, []int{0, 2, 1, 3, 2, 4}) {
		t.Errorf("what was told first became %v", first)
	}
}
