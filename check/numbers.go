package check

import "timebound/api"

// withinLimits reports whether nothing in a program is too many.
func withinLimits(p api.Program) bool {
	return len(p.Resources) <= api.MaxResources && len(p.Shared) <= api.MaxShared &&
		within(len(p.Tasks), 1, api.MaxTasks) && every(p.Tasks, withinLimitsOfTasks)
}

func withinLimitsOfTasks(t api.Task) bool {
	count := 0
	for range statements(t.Body) {
		count++
	}
	return len(t.Inputs) <= api.MaxInputs && len(t.Inputs)+len(t.Vars) <= api.MaxVars && len(t.Arrays) <= api.MaxArrays &&
		len(t.Modes) <= api.MaxModes && len(t.Claims) <= api.MaxClaims && count <= api.MaxStmts
}

// rightRanges reports whether all numbers of a program are within their ranges. Those of expressions are: no others are printable.
func rightRanges(p api.Program) bool {
	return every(p.Shared, func(s api.Shared) bool { return rightSize(s.Array) }) && every(p.Tasks, rightNumbers)
}

// rightNumbers is rightRanges for a task.
func rightNumbers(t api.Task) bool {
	for s := range statements(t.Body) {
		if !within(s.Max, 0, api.MaxMax) {
			return false
		}
	}
	return within(t.Period, 1, api.MaxPeriod) && within(t.Deadline, 1, t.Period) &&
		within(t.Priority, 1, api.MaxPriority) && within(t.Jitter, 0, t.Period) &&
		every(t.Arrays, rightSize) && rightInputs(t)
}

// rightInputs reports whether inputs and modes have values, and modes no others than their inputs.
func rightInputs(t api.Task) bool {
	inputs := map[string]api.Input{}
	for _, i := range t.Inputs {
		if i.Lo > i.Hi {
			return false
		}
		inputs[i.Name] = i
	}
	return every(t.Modes, func(m api.Mode) bool {
		i := inputs[m.Input]
		return i.Lo <= m.Lo && m.Lo <= m.Hi && m.Hi <= i.Hi
	})
}

// rightSize reports whether the size of an array is a power of two that is not too great.
func rightSize(a api.Array) bool { return within(a.Size, 1, api.MaxSize) && a.Size&(a.Size-1) == 0 }

func within(n, lo, hi int) bool { return lo <= n && n <= hi }
