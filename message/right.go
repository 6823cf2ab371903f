package message

import (
	"math"
	"slices"

	"palatine/api"
)

// maxLevels is how deep filters may be nested.
const maxLevels = 6

// isRight looks at what the operation's line in the table names, and takes it away: of a valid message nothing else is left.
func isRight(m api.Message) bool {
	right := isNumber(m.Id)
	switch m.Op {
	case api.OpBind:
		right = right && isFrom(1, m.Version, 127)
		m.Version, m.Name, m.Password = 0, "", ""
	case api.OpUnbind:
	case api.OpSearch:
		right = right && isRightSearch(m)
		m.Name, m.Scope, m.Deref, m.Size, m.Time, m.TypesOnly = "", 0, 0, 0, 0, false
		m.Filter, m.Wants = api.Filter{}, nil
	case api.OpModify:
		right = right && !slices.ContainsFunc(m.Mods, func(x api.Mod) bool { return !isFrom(0, x.Do, 2) })
		m.Name, m.Mods = "", nil
	case api.OpAdd, api.OpEntry:
		m.Name, m.List = "", nil
	case api.OpDelete:
		m.Name = ""
	case api.OpMove:
		right = right && (m.Moves || m.Superior == "")
		m.Name, m.Rdn, m.DropOld, m.Moves, m.Superior = "", "", false, false, ""
	case api.OpCompare:
		m.Name, m.Type, m.Value = "", "", ""
	case api.OpAbandon:
		right = right && isNumber(m.Target)
		m.Target = 0
	case api.OpNotice:
		right = right && isCode(m.Code)
		m.Code, m.Matched, m.Text, m.Name = 0, "", "", ""
	case api.OpBindR, api.OpDone, api.OpModifyR, api.OpAddR, api.OpDeleteR, api.OpMoveR, api.OpCompareR:
		right = right && isCode(m.Code)
		m.Code, m.Matched, m.Text = 0, "", ""
	default:
		return false
	}
	return right && isEmpty(m)
}

func isRightSearch(m api.Message) bool {
	return isFrom(0, m.Scope, 2) && isFrom(0, m.Deref, 3) && isNumber(m.Size) && isNumber(m.Time) && isRightFilter(m.Filter, maxLevels)
}

// isRightFilter reports whether a filter is valid and has no more levels than these. What is named for its kind is taken away, as isRight does it.
func isRightFilter(f api.Filter, levels int) bool {
	right := levels > 0
	switch f.Kind {
	case api.And, api.Or, api.Not:
		right = right && areRightKids(f, levels-1)
		f.Kids = nil
	case api.Equal, api.AtLeast, api.AtMost:
		f.Type, f.Value = "", ""
	case api.Sub:
		right = right && areRightParts(f)
		f.Type, f.First, f.Any, f.Last = "", "", nil, ""
	case api.Present:
		f.Type = ""
	default:
		return false
	}
	f.Kind = 0
	return right && isEmptyFilter(f)
}

func areRightKids(f api.Filter, levels int) bool {
	if len(f.Kids) == 0 || f.Kind == api.Not && len(f.Kids) > 1 {
		return false
	}
	return !slices.ContainsFunc(f.Kids, func(kid api.Filter) bool { return !isRightFilter(kid, levels) })
}

func areRightParts(f api.Filter) bool {
	return (f.First != "" || len(f.Any) > 0 || f.Last != "") && !slices.Contains(f.Any, "")
}

// isEmpty reports whether a message has nothing but its Id and Op.
func isEmpty(m api.Message) bool {
	numbers := m.Version == 0 && m.Scope == 0 && m.Deref == 0 && m.Size == 0 && m.Time == 0 && m.Target == 0 && m.Code == 0
	texts := m.Name == "" && m.Password == "" && m.Rdn == "" && m.Superior == "" && m.Type == "" && m.Value == "" && m.Matched == "" && m.Text == ""
	lists := len(m.Wants) == 0 && len(m.List) == 0 && len(m.Mods) == 0
	return numbers && texts && lists && isEmptyFilter(m.Filter) && !m.TypesOnly && !m.DropOld && !m.Moves
}

func isEmptyFilter(f api.Filter) bool {
	texts := f.Type == "" && f.Value == "" && f.First == "" && f.Last == ""
	return f.Kind == 0 && texts && len(f.Kids) == 0 && len(f.Any) == 0
}

func isFrom(low, n, high int) bool { return n >= low && n <= high }

func isNumber(n int) bool { return isFrom(0, n, math.MaxInt32) }

func isCode(n int) bool { return isFrom(0, n, 127) }
