package names

// set: as many names, each once.
type set map[string]struct{}

func (s set) has(name string) bool {
	_, ok := s[name]
	return ok
}

// put: was it not there before?
func (s set) put(name string) bool {
	isNew := !s.has(name)
	s[name] = struct{}{}
	return isNew
}
