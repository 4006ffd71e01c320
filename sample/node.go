package sample

import "tributary/api"

// AlikeStarts tells whether all fields of a and b are the same.
func AlikeStarts(a, b api.Start) bool {
	return a.Id == b.Id && a.Nodes == b.Nodes && a.Term == b.Term && a.Vote == b.Vote && a.First == b.First && a.Base == b.Base && AlikeLogs(a.Entries, b.Entries) && a.Commit == b.Commit
}

// AlikeAnswers tells whether all fields of a and b are the same.
func AlikeAnswers(a, b api.Answer) bool {
	return a.Session == b.Session && a.Number == b.Number && a.Read == b.Read && a.Code == b.Code && a.Index == b.Index && Alike(a.Value, b.Value)
}
