package check

import "timebound/api"

// owners says which resource must be held to use an array: none for those of a task.
type owners map[string]string

// rightLocks reports whether shared arrays are used within locks of their resources alone, and no lock is within another one.
func rightLocks(p api.Program) bool {
	o := owners{}
	for _, s := range p.Shared {
		o[s.Array.Name] = s.Resource
	}
	return every(p.Tasks, func(t api.Task) bool { return o.right(t.Body, "") })
}

// right is rightLocks for statements within a lock of a resource, or within none if its name is empty.
func (o owners) right(l []api.Stmt, held string) bool {
	return every(l, func(s api.Stmt) bool {
		if s.Kind == api.StmtLock {
			return held == "" && o.right(s.Then, s.Name)
		}
		return o.rightUses(s, held) && o.right(s.Then, held) && o.right(s.Else, held)
	})
}

// rightUses reports whether a statement, without its blocks, uses no array for which another resource must be held.
func (o owners) rightUses(s api.Stmt, held string) bool {
	if s.Kind == api.StmtStore && !o.usable(s.Name, held) {
		return false
	}
	for e := range expressions(s) {
		if e.Kind == api.ExprIndex && !o.usable(e.Name, held) {
			return false
		}
	}
	return true
}

func (o owners) usable(array, held string) bool { return o[array] == "" || o[array] == held }
