package infer

import "timebound/api"

// looked is the depth down to which statements are looked for.
const looked = 20

// place is where a list of statements is: two lists with the same place are the same one.
type place struct {
	first *api.Stmt
	size  int
}

// Outside reports whether a task has an if or a while with a label that is in no while.
func Outside(t api.Task, label int) bool {
	s := search{known: map[place]bool{}}
	s.add(t.Body)
	for range looked {
		level := s.next
		s.next = nil
		for _, list := range level {
			if s.find(list, label) {
				return true
			}
		}
	}
	return false
}

// search is a search of statements, level by level. Each list is gone through once, where it is first found: a list can be in many statements, and even in its own, so that to follow each way down to it could take forever.
type search struct {
	known map[place]bool
	next  [][]api.Stmt
}

// find reports whether a list has an if or a while with a label, and adds the blocks of its statements to the next level, but for those of loops.
func (s *search) find(list []api.Stmt, label int) bool {
	for _, st := range list {
		loop := st.Kind == api.StmtWhile
		if (loop || st.Kind == api.StmtIf) && st.Label == label {
			return true
		}
		if !loop {
			s.add(st.Then)
			s.add(st.Else)
		}
	}
	return false
}

// add adds a list to the next level.
func (s *search) add(list []api.Stmt) {
	if len(list) == 0 {
		return
	}
	at := place{&list[0], len(list)}
	if !s.known[at] {
		s.known[at] = true
		s.next = append(s.next, list)
	}
}
