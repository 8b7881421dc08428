package stream

// SkipTo makes id the least of ours that is new, for a test that went there by
// Next would take minutes.
func (s *Ids) SkipTo(id int) {
	s.next = id
}
