package check

// names are those that were told so far.
type names map[string]struct{}

func newNames() names { return names{} }

// add says whether a name is new.
func (l names) add(name string) bool {
	if _, ok := l[name]; ok {
		return false
	}
	l[name] = struct{}{}
	return true
}

// scope has the names that are declared in it so far; sees looks for one there, and in the scopes around.
type scope struct {
	own  names
	sees func(name string) bool
}

// within is a scope in which all is seen that is seen around.
func within(around func(name string) bool) *scope {
	own := newNames()
	return &scope{own: own, sees: func(name string) bool {
		_, ok := own[name]
		return ok || around(name)
	}}
}

// alone is a scope that sees nothing around it.
func alone() *scope {
	return within(func(string) bool { return false })
}
