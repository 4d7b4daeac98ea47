package candidate

import (
	"math/rand/v2"
	"slices"
	"testing"

	"tannoy/api"
)

// isAhead tells whether the candidate at i is before the one at j, in the order of candidates.
func isAhead(l []api.Candidate, i, j int) bool {
	return l[i].Priority > l[j].Priority || l[i].Priority == l[j].Priority && i < j
}

func areAlike(a, b api.Candidate) bool {
	return a.Addr.Host == b.Addr.Host && a.Addr.Port == b.Addr.Port && a.Base.Host == b.Base.Host && a.Base.Port == b.Base.Port && a.Component == b.Component
}

// gatherByPlaces puts each candidate that is not redundant to its place: there are as many before it as are ahead of it.
func gatherByPlaces(l []api.Candidate) []api.Candidate {
	var kept []int
	for j := range l {
		redundant := false
		for i := range l {
			redundant = redundant || isAhead(l, i, j) && areAlike(l[i], l[j])
		}
		if !redundant {
			kept = append(kept, j)
		}
	}
	out := make([]api.Candidate, len(kept))
	for _, j := range kept {
		place := 0
		for _, i := range kept {
			if isAhead(l, i, j) {
				place++
			}
		}
		out[place] = l[j]
	}
	return out
}

// checkGather gathers valid candidates, also what was gathered.
func checkGather(t *testing.T, l []api.Candidate) {
	t.Helper()
	before := slices.Clone(l)
	got, e := Gather(l)
	if e != api.OK || !slices.Equal(got, gatherByPlaces(l)) {
		t.Errorf("Gather of %#v: %#v, error %d", l, got, e)
	}
	again, e := Gather(got)
	if e != api.OK || !slices.Equal(again, got) {
		t.Errorf("Gather of what Gather returned, %#v: %#v, error %d", got, again, e)
	}
	// What is returned is not memory of the argument.
	for i := range got {
		got[i] = api.Candidate{}
	}
	if !slices.Equal(l, before) {
		t.Errorf("Gather changes or keeps %#v", before)
	}
}

// P9.5
func TestKnownGather(t *testing.T) {
	h, s := host(), server()
	low := changed(h, func(c *api.Candidate) { c.Priority = 5 })
	peer := changed(h, func(c *api.Candidate) { c.Kind, c.Foundation = 2, "2" })
	second := changed(h, func(c *api.Candidate) { c.Component = 2 })
	otherBase := changed(s, func(c *api.Candidate) { c.Base.Port = 1 })
	otherHost := changed(s, func(c *api.Candidate) { c.Addr.Host = "\x00\x00\x00\x01" })
	otherPort := changed(s, func(c *api.Candidate) { c.Addr.Port = 1 })
	for _, x := range []struct{ l, want []api.Candidate }{
		{nil, nil},
		{[]api.Candidate{}, nil},
		{[]api.Candidate{h}, []api.Candidate{h}},
		{[]api.Candidate{h, low}, []api.Candidate{h}},
		{[]api.Candidate{low, h}, []api.Candidate{h}},
		{[]api.Candidate{low, s, h}, []api.Candidate{h, s}},
		{[]api.Candidate{s, h}, []api.Candidate{h, s}},
		{[]api.Candidate{h, peer}, []api.Candidate{h}},
		{[]api.Candidate{peer, h}, []api.Candidate{peer}},
		{[]api.Candidate{second, h, second}, []api.Candidate{second, h}},
		{[]api.Candidate{s, otherBase, otherHost, otherPort, s}, []api.Candidate{s, otherBase, otherHost, otherPort}},
		{[]api.Candidate{otherPort, otherBase, otherHost, s}, []api.Candidate{otherPort, otherBase, otherHost, s}},
	} {
		if got, e := Gather(x.l); !slices.Equal(got, x.want) || e != api.OK {
			t.Errorf("Gather of %#v: %#v, error %d, not %#v", x.l, got, e, x.want)
		}
		checkGather(t, x.l)
	}
}

// some returns n valid candidates, some of which are alike, or have the same priority; what they are depends on the seed only.
func some(n int, seed uint64) []api.Candidate {
	r := rand.New(rand.NewPCG(seed, 9))
	addrs := []api.Addr{at("10.0.0.1:1"), at("10.0.0.1:2"), at("10.0.0.2:1")}
	var l []api.Candidate
	for range n {
		c := api.Candidate{Kind: 1 + r.IntN(4), Component: 1 + r.IntN(2), Priority: 1 + r.IntN(4), Foundation: "1-", Addr: addrs[r.IntN(3)]}
		c.Base = c.Addr
		if c.Kind == 2 || c.Kind == 3 {
			c.Base = addrs[r.IntN(3)]
		}
		// The foundation shows which of several that are alike was kept.
		c.Foundation += "0123456789abcdef"[len(l) : len(l)+1]
		l = append(l, c)
	}
	return l
}

// P9.5, P9.6: lists of all lengths.
func TestGather(t *testing.T) {
	for seed := range uint64(2000) {
		for n := range 13 {
			checkGather(t, some(n, seed))
		}
	}
}

// P9.5: the order of those with the same priority, in a list that is as long as it may be.
func TestGatherKeepsTheOrder(t *testing.T) {
	for _, spread := range []int{1, 2, 3, 12} {
		var l []api.Candidate
		for i := range 12 {
			l = append(l, changed(host(), func(c *api.Candidate) { c.Component, c.Priority = 1+i, 1+i%spread }))
		}
		checkGather(t, l)
		if got, _ := Gather(l); len(got) != 12 {
			t.Errorf("Gather of 12 that are not alike returns %d", len(got))
		}
	}
}

// P9.5
func TestErrorsOfGather(t *testing.T) {
	for n := 1; n <= 40; n++ {
		l := slices.Repeat([]api.Candidate{host()}, n)
		got, e := Gather(l)
		if n <= 12 && (len(got) != 1 || e != api.OK) || n > 12 && (len(got) != 0 || e != api.ErrLong) {
			t.Errorf("Gather of %d: %d of them, error %d", n, len(got), e)
		}
		for i := range l {
			wrong := slices.Clone(l)
			wrong[i].Priority = 0
			want := api.ErrCandidate
			if n > 12 {
				want = api.ErrLong
			}
			if got, e := Gather(wrong); len(got) != 0 || e != want {
				t.Errorf("Gather of %d, of which %d is not valid: %d of them, error %d", n, i, len(got), e)
			}
		}
	}
	if got, e := Gather(make([]api.Candidate, 1<<16)); len(got) != 0 || e != api.ErrLong {
		t.Errorf("Gather of too many that are not valid: %d of them, error %d", len(got), e)
	}
}
