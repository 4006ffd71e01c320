/-
  NARROWER THAN 'FOR EVERY INPUT', by the rows' own cells (each row's printed sentence says how): EntryChecks: loops · EntryCodes: loops · EntrySames: loops · FilterMatches: loops · FilterCounts: loops · FilterWider: loops · FilterKinds: loops.
  DERIVED. THE GIVEN ROWS OF THIS SEAT. 9 by the template 'for every input the law returns true; each argument reads behind the call as it read before'; 0 by the template 'total and deterministic' (their statements: YtpcdngpppjdgcaaGreatTotals.lean).
  GIVEN WITH THE SEED: the statements are not yours to turn. If you find one false, say at which input.
  Laid BY PROGRAM, IN A SANDBOX (cutbox-rows.mjs): the forced cells as the released guide's own fill.sh prints them over the translation f23ec79b39c7c6ea… (all of the seat's roots in one cut). By AI agents, Wed Nov 11 2026. No macro, syntax, notation, axiom, sorry.
-/
import Derived.Test.YtpcdngpppjdgcaaGreatChecked
import GoSem.Claim
import GoSem.ClaimJoined
import GoSem.ClaimMapViews
import Derived.JoinedTies
import Derived.KernelRfl
namespace Go.Proofs.YtpcdngpppjdgcaaGreat
/- THE CELL 'sum', in the pinned program and in every row, IS THE sha256 OF THE DUMP (.gsa) THAT YtpcdngpppjdgcaaGreatProg.lean LOADS. Nothing in Lean hashes anything: it is a label: what it is worth is what the hold of that sum in a sandbox is worth. -/
noncomputable def Tryz.pinned : Pinned := { name := "ytpcdngpppjdgcaagreat", sum := "f23ec79b39c7c6ea05dbf718744ccaf5eccedb4e071ae419c65ab0e5dad01a81", checked := Tryz.checked }
namespace Rows
def none {H : Type} : Left H := { results := [], args := [] }

/-- 'tributarylaw13.EntryChecks': WHATEVER THE INPUT: true; the input reads as it did. -/
def entryChecksSpec : ChangeSpec := { name := "entryChecks", fn := fun _ => fun
  | [d1, d2] => { results := [.lit (.bool true)], args := [d1, d2] }
  | _ => none }
def entryChecksRow : OpenClaim := { program := "ytpcdngpppjdgcaagreat", sum := "f23ec79b39c7c6ea05dbf718744ccaf5eccedb4e071ae419c65ab0e5dad01a81", func := "tributary/tributarylaw13.EntryChecks", spec := "entryChecks", inPlace := ["internal/bytealg.IndexByteString", "internal/bytealg.IndexString"], unfollowed := true, recurses := true, named := ["internal/bytealg.MaxLen"], loops := true, apart := false }
def EntryChecksSaid : Prop := entryChecksRow.holds Tryz.pinned (OpenSpec.ofChange entryChecksSpec)

/-- ITS FALSE NEIGHBOUR: 'it returns false'. Refute it at one input. -/
def entryChecksWrong : ChangeSpec := { name := "entryChecks", fn := fun _ => fun
  | [d1, d2] => { results := [.lit (.bool false)], args := [d1, d2] }
  | _ => none }
def EntryChecksWrongFalsely : Prop := entryChecksRow.holds Tryz.pinned (OpenSpec.ofChange entryChecksWrong)

/-- 'tributarylaw13.EntryCodes': WHATEVER THE INPUT: true; the input reads as it did. -/
def entryCodesSpec : ChangeSpec := { name := "entryCodes", fn := fun _ => fun
  | [d] => { results := [.lit (.bool true)], args := [d] }
  | _ => none }
def entryCodesRow : OpenClaim := { program := "ytpcdngpppjdgcaagreat", sum := "f23ec79b39c7c6ea05dbf718744ccaf5eccedb4e071ae419c65ab0e5dad01a81", func := "tributary/tributarylaw13.EntryCodes", spec := "entryCodes", inPlace := ["internal/bytealg.IndexByteString", "internal/bytealg.IndexString"], unfollowed := true, recurses := true, named := ["internal/bytealg.MaxLen"], loops := true, apart := false }
def EntryCodesSaid : Prop := entryCodesRow.holds Tryz.pinned (OpenSpec.ofChange entryCodesSpec)

/-- ITS FALSE NEIGHBOUR: 'it returns false'. Refute it at one input. -/
def entryCodesWrong : ChangeSpec := { name := "entryCodes", fn := fun _ => fun
  | [d] => { results := [.lit (.bool false)], args := [d] }
  | _ => none }
def EntryCodesWrongFalsely : Prop := entryCodesRow.holds Tryz.pinned (OpenSpec.ofChange entryCodesWrong)

/-- 'tributarylaw13.EntryDecodes': WHATEVER THE INPUT: true; the input reads as it did. -/
def entryDecodesSpec : ChangeSpec := { name := "entryDecodes", fn := fun _ => fun
  | [d] => { results := [.lit (.bool true)], args := [d] }
  | _ => none }
def entryDecodesRow : OpenClaim := { program := "ytpcdngpppjdgcaagreat", sum := "f23ec79b39c7c6ea05dbf718744ccaf5eccedb4e071ae419c65ab0e5dad01a81", func := "tributary/tributarylaw13.EntryDecodes", spec := "entryDecodes", inPlace := ["internal/bytealg.IndexByteString", "internal/bytealg.IndexString"], unfollowed := true, recurses := true, named := ["internal/bytealg.MaxLen"], apart := false }
def EntryDecodesSaid : Prop := entryDecodesRow.holds Tryz.pinned (OpenSpec.ofChange entryDecodesSpec)

/-- ITS FALSE NEIGHBOUR: 'it returns false'. Refute it at one input. -/
def entryDecodesWrong : ChangeSpec := { name := "entryDecodes", fn := fun _ => fun
  | [d] => { results := [.lit (.bool false)], args := [d] }
  | _ => none }
def EntryDecodesWrongFalsely : Prop := entryDecodesRow.holds Tryz.pinned (OpenSpec.ofChange entryDecodesWrong)

/-- 'tributarylaw13.EntryReads': WHATEVER THE INPUT: true; the input reads as it did. -/
def entryReadsSpec : ChangeSpec := { name := "entryReads", fn := fun _ => fun
  | [d1, d2] => { results := [.lit (.bool true)], args := [d1, d2] }
  | _ => none }
def entryReadsRow : OpenClaim := { program := "ytpcdngpppjdgcaagreat", sum := "f23ec79b39c7c6ea05dbf718744ccaf5eccedb4e071ae419c65ab0e5dad01a81", func := "tributary/tributarylaw13.EntryReads", spec := "entryReads", inPlace := ["internal/bytealg.IndexByteString", "internal/bytealg.IndexString"], unfollowed := true, recurses := true, named := ["internal/bytealg.MaxLen"], apart := false }
def EntryReadsSaid : Prop := entryReadsRow.holds Tryz.pinned (OpenSpec.ofChange entryReadsSpec)

/-- ITS FALSE NEIGHBOUR: 'it returns false'. Refute it at one input. -/
def entryReadsWrong : ChangeSpec := { name := "entryReads", fn := fun _ => fun
  | [d1, d2] => { results := [.lit (.bool false)], args := [d1, d2] }
  | _ => none }
def EntryReadsWrongFalsely : Prop := entryReadsRow.holds Tryz.pinned (OpenSpec.ofChange entryReadsWrong)

/-- 'tributarylaw13.EntrySames': WHATEVER THE INPUT: true; the input reads as it did. -/
def entrySamesSpec : ChangeSpec := { name := "entrySames", fn := fun _ => fun
  | [d1, d2] => { results := [.lit (.bool true)], args := [d1, d2] }
  | _ => none }
def entrySamesRow : OpenClaim := { program := "ytpcdngpppjdgcaagreat", sum := "f23ec79b39c7c6ea05dbf718744ccaf5eccedb4e071ae419c65ab0e5dad01a81", func := "tributary/tributarylaw13.EntrySames", spec := "entrySames", inPlace := ["internal/bytealg.IndexByteString", "internal/bytealg.IndexString"], unfollowed := true, recurses := true, named := ["internal/bytealg.MaxLen"], loops := true, apart := false }
def EntrySamesSaid : Prop := entrySamesRow.holds Tryz.pinned (OpenSpec.ofChange entrySamesSpec)

/-- ITS FALSE NEIGHBOUR: 'it returns false'. Refute it at one input. -/
def entrySamesWrong : ChangeSpec := { name := "entrySames", fn := fun _ => fun
  | [d1, d2] => { results := [.lit (.bool false)], args := [d1, d2] }
  | _ => none }
def EntrySamesWrongFalsely : Prop := entrySamesRow.holds Tryz.pinned (OpenSpec.ofChange entrySamesWrong)

/-- 'tributarylaw19.FilterMatches': WHATEVER THE INPUT: true; the input reads as it did. -/
def filterMatchesSpec : ChangeSpec := { name := "filterMatches", fn := fun _ => fun
  | [d1, d2] => { results := [.lit (.bool true)], args := [d1, d2] }
  | _ => none }
def filterMatchesRow : OpenClaim := { program := "ytpcdngpppjdgcaagreat", sum := "f23ec79b39c7c6ea05dbf718744ccaf5eccedb4e071ae419c65ab0e5dad01a81", func := "tributary/tributarylaw19.FilterMatches", spec := "filterMatches", inPlace := ["internal/bytealg.IndexByteString", "internal/bytealg.IndexString"], unfollowed := true, recurses := true, named := ["internal/bytealg.MaxLen"], loops := true, apart := false }
def FilterMatchesSaid : Prop := filterMatchesRow.holds Tryz.pinned (OpenSpec.ofChange filterMatchesSpec)

/-- ITS FALSE NEIGHBOUR: 'it returns false'. Refute it at one input. -/
def filterMatchesWrong : ChangeSpec := { name := "filterMatches", fn := fun _ => fun
  | [d1, d2] => { results := [.lit (.bool false)], args := [d1, d2] }
  | _ => none }
def FilterMatchesWrongFalsely : Prop := filterMatchesRow.holds Tryz.pinned (OpenSpec.ofChange filterMatchesWrong)

/-- 'tributarylaw19.FilterCounts': WHATEVER THE INPUT: true; the input reads as it did. -/
def filterCountsSpec : ChangeSpec := { name := "filterCounts", fn := fun _ => fun
  | [d1, d2] => { results := [.lit (.bool true)], args := [d1, d2] }
  | _ => none }
def filterCountsRow : OpenClaim := { program := "ytpcdngpppjdgcaagreat", sum := "f23ec79b39c7c6ea05dbf718744ccaf5eccedb4e071ae419c65ab0e5dad01a81", func := "tributary/tributarylaw19.FilterCounts", spec := "filterCounts", inPlace := ["internal/bytealg.IndexByteString", "internal/bytealg.IndexString"], unfollowed := true, recurses := true, named := ["internal/bytealg.MaxLen"], loops := true, apart := false }
def FilterCountsSaid : Prop := filterCountsRow.holds Tryz.pinned (OpenSpec.ofChange filterCountsSpec)

/-- ITS FALSE NEIGHBOUR: 'it returns false'. Refute it at one input. -/
def filterCountsWrong : ChangeSpec := { name := "filterCounts", fn := fun _ => fun
  | [d1, d2] => { results := [.lit (.bool false)], args := [d1, d2] }
  | _ => none }
def FilterCountsWrongFalsely : Prop := filterCountsRow.holds Tryz.pinned (OpenSpec.ofChange filterCountsWrong)

/-- 'tributarylaw19.FilterWider': WHATEVER THE INPUT: true; the input reads as it did. -/
def filterWiderSpec : ChangeSpec := { name := "filterWider", fn := fun _ => fun
  | [d1, d2] => { results := [.lit (.bool true)], args := [d1, d2] }
  | _ => none }
def filterWiderRow : OpenClaim := { program := "ytpcdngpppjdgcaagreat", sum := "f23ec79b39c7c6ea05dbf718744ccaf5eccedb4e071ae419c65ab0e5dad01a81", func := "tributary/tributarylaw19.FilterWider", spec := "filterWider", inPlace := ["internal/bytealg.IndexByteString", "internal/bytealg.IndexString"], unfollowed := true, recurses := true, named := ["internal/bytealg.MaxLen"], loops := true, apart := false }
def FilterWiderSaid : Prop := filterWiderRow.holds Tryz.pinned (OpenSpec.ofChange filterWiderSpec)

/-- ITS FALSE NEIGHBOUR: 'it returns false'. Refute it at one input. -/
def filterWiderWrong : ChangeSpec := { name := "filterWider", fn := fun _ => fun
  | [d1, d2] => { results := [.lit (.bool false)], args := [d1, d2] }
  | _ => none }
def FilterWiderWrongFalsely : Prop := filterWiderRow.holds Tryz.pinned (OpenSpec.ofChange filterWiderWrong)

/-- 'tributarylaw19.FilterKinds': WHATEVER THE INPUT: true; the input reads as it did. -/
def filterKindsSpec : ChangeSpec := { name := "filterKinds", fn := fun _ => fun
  | [d1, d2] => { results := [.lit (.bool true)], args := [d1, d2] }
  | _ => none }
def filterKindsRow : OpenClaim := { program := "ytpcdngpppjdgcaagreat", sum := "f23ec79b39c7c6ea05dbf718744ccaf5eccedb4e071ae419c65ab0e5dad01a81", func := "tributary/tributarylaw19.FilterKinds", spec := "filterKinds", inPlace := ["internal/bytealg.IndexByteString", "internal/bytealg.IndexString"], unfollowed := true, recurses := true, named := ["internal/bytealg.MaxLen"], loops := true, apart := false }
def FilterKindsSaid : Prop := filterKindsRow.holds Tryz.pinned (OpenSpec.ofChange filterKindsSpec)

/-- ITS FALSE NEIGHBOUR: 'it returns false'. Refute it at one input. -/
def filterKindsWrong : ChangeSpec := { name := "filterKinds", fn := fun _ => fun
  | [d1, d2] => { results := [.lit (.bool false)], args := [d1, d2] }
  | _ => none }
def FilterKindsWrongFalsely : Prop := filterKindsRow.holds Tryz.pinned (OpenSpec.ofChange filterKindsWrong)

/- THE SECOND FORM. 'bulk': how many values and letters a reading holds, each counted each time it is reached (what is shared counts as often as it is met; a slice's spare places count too). A statement '..UptoSaid' is the law's where the arguments, and the package variables that the reading takes, are together of bulk at most 1048576: NARROWER than '..Said'. Prove '..Said' where nothing that the law and all that it calls make is longer than what came in: it says more and counts as full. Else prove '..UptoSaid'. A law counts once. -/
mutual
def uptoBulk {H : Type} : DataW H → Nat
  | .lit (.string bytes) => bytes.length + 1
  | .lit _ => 1
  | .nil => 1
  | .ptr d => uptoBulk d + 1
  | .slice elems spare => uptoBulkAll elems + uptoBulkAll spare + 1
  | .agg parts => uptoBulkAll parts + 1
  | .iface _ d => uptoBulk d + 1
  | .map entries => uptoBulkEntries entries + 1
  | .held _ => 1
def uptoBulkAll {H : Type} : List (DataW H) → Nat
  | [] => 0
  | d :: r => uptoBulk d + uptoBulkAll r
def uptoBulkEntries {H : Type} : List (Lit × DataW H) → Nat
  | [] => 0
  | x :: r => uptoBulkEntry x + uptoBulkEntries r
def uptoBulkEntry {H : Type} : Lit × DataW H → Nat
  | (.string bytes, d) => bytes.length + uptoBulk d + 1
  | (_, d) => uptoBulk d + 1
 end
def uptoSmall : (H : Type) → List (DataW H) → Bool := fun _ ds => decide (uptoBulkAll ds ≤ 1048576)
def OpenSpec.upto (s : _root_.Go.ChangeSpec) : _root_.Go.OpenSpec := { _root_.Go.OpenSpec.ofChange s with cond := some uptoSmall }

/-- 'tributarylaw13.EntryChecks', WHERE WHAT IT READS IS OF BULK AT MOST 1048576: true; the input reads as it did. -/
def entryChecksUptoRow : OpenClaim := { program := "ytpcdngpppjdgcaagreat", sum := "f23ec79b39c7c6ea05dbf718744ccaf5eccedb4e071ae419c65ab0e5dad01a81", func := "tributary/tributarylaw13.EntryChecks", spec := "entryChecks", inPlace := ["internal/bytealg.IndexByteString", "internal/bytealg.IndexString"], unfollowed := true, recurses := true, named := ["internal/bytealg.MaxLen"], loops := true, apart := false, narrowed := true }
def EntryChecksUptoSaid : Prop := entryChecksUptoRow.holds Tryz.pinned (OpenSpec.upto entryChecksSpec)

/-- 'tributarylaw13.EntryCodes', WHERE WHAT IT READS IS OF BULK AT MOST 1048576: true; the input reads as it did. -/
def entryCodesUptoRow : OpenClaim := { program := "ytpcdngpppjdgcaagreat", sum := "f23ec79b39c7c6ea05dbf718744ccaf5eccedb4e071ae419c65ab0e5dad01a81", func := "tributary/tributarylaw13.EntryCodes", spec := "entryCodes", inPlace := ["internal/bytealg.IndexByteString", "internal/bytealg.IndexString"], unfollowed := true, recurses := true, named := ["internal/bytealg.MaxLen"], loops := true, apart := false, narrowed := true }
def EntryCodesUptoSaid : Prop := entryCodesUptoRow.holds Tryz.pinned (OpenSpec.upto entryCodesSpec)

/-- 'tributarylaw13.EntryDecodes', WHERE WHAT IT READS IS OF BULK AT MOST 1048576: true; the input reads as it did. -/
def entryDecodesUptoRow : OpenClaim := { program := "ytpcdngpppjdgcaagreat", sum := "f23ec79b39c7c6ea05dbf718744ccaf5eccedb4e071ae419c65ab0e5dad01a81", func := "tributary/tributarylaw13.EntryDecodes", spec := "entryDecodes", inPlace := ["internal/bytealg.IndexByteString", "internal/bytealg.IndexString"], unfollowed := true, recurses := true, named := ["internal/bytealg.MaxLen"], apart := false, narrowed := true }
def EntryDecodesUptoSaid : Prop := entryDecodesUptoRow.holds Tryz.pinned (OpenSpec.upto entryDecodesSpec)

/-- 'tributarylaw13.EntryReads', WHERE WHAT IT READS IS OF BULK AT MOST 1048576: true; the input reads as it did. -/
def entryReadsUptoRow : OpenClaim := { program := "ytpcdngpppjdgcaagreat", sum := "f23ec79b39c7c6ea05dbf718744ccaf5eccedb4e071ae419c65ab0e5dad01a81", func := "tributary/tributarylaw13.EntryReads", spec := "entryReads", inPlace := ["internal/bytealg.IndexByteString", "internal/bytealg.IndexString"], unfollowed := true, recurses := true, named := ["internal/bytealg.MaxLen"], apart := false, narrowed := true }
def EntryReadsUptoSaid : Prop := entryReadsUptoRow.holds Tryz.pinned (OpenSpec.upto entryReadsSpec)

/-- 'tributarylaw13.EntrySames', WHERE WHAT IT READS IS OF BULK AT MOST 1048576: true; the input reads as it did. -/
def entrySamesUptoRow : OpenClaim := { program := "ytpcdngpppjdgcaagreat", sum := "f23ec79b39c7c6ea05dbf718744ccaf5eccedb4e071ae419c65ab0e5dad01a81", func := "tributary/tributarylaw13.EntrySames", spec := "entrySames", inPlace := ["internal/bytealg.IndexByteString", "internal/bytealg.IndexString"], unfollowed := true, recurses := true, named := ["internal/bytealg.MaxLen"], loops := true, apart := false, narrowed := true }
def EntrySamesUptoSaid : Prop := entrySamesUptoRow.holds Tryz.pinned (OpenSpec.upto entrySamesSpec)

/-- 'tributarylaw19.FilterMatches', WHERE WHAT IT READS IS OF BULK AT MOST 1048576: true; the input reads as it did. -/
def filterMatchesUptoRow : OpenClaim := { program := "ytpcdngpppjdgcaagreat", sum := "f23ec79b39c7c6ea05dbf718744ccaf5eccedb4e071ae419c65ab0e5dad01a81", func := "tributary/tributarylaw19.FilterMatches", spec := "filterMatches", inPlace := ["internal/bytealg.IndexByteString", "internal/bytealg.IndexString"], unfollowed := true, recurses := true, named := ["internal/bytealg.MaxLen"], loops := true, apart := false, narrowed := true }
def FilterMatchesUptoSaid : Prop := filterMatchesUptoRow.holds Tryz.pinned (OpenSpec.upto filterMatchesSpec)

/-- 'tributarylaw19.FilterCounts', WHERE WHAT IT READS IS OF BULK AT MOST 1048576: true; the input reads as it did. -/
def filterCountsUptoRow : OpenClaim := { program := "ytpcdngpppjdgcaagreat", sum := "f23ec79b39c7c6ea05dbf718744ccaf5eccedb4e071ae419c65ab0e5dad01a81", func := "tributary/tributarylaw19.FilterCounts", spec := "filterCounts", inPlace := ["internal/bytealg.IndexByteString", "internal/bytealg.IndexString"], unfollowed := true, recurses := true, named := ["internal/bytealg.MaxLen"], loops := true, apart := false, narrowed := true }
def FilterCountsUptoSaid : Prop := filterCountsUptoRow.holds Tryz.pinned (OpenSpec.upto filterCountsSpec)

/-- 'tributarylaw19.FilterWider', WHERE WHAT IT READS IS OF BULK AT MOST 1048576: true; the input reads as it did. -/
def filterWiderUptoRow : OpenClaim := { program := "ytpcdngpppjdgcaagreat", sum := "f23ec79b39c7c6ea05dbf718744ccaf5eccedb4e071ae419c65ab0e5dad01a81", func := "tributary/tributarylaw19.FilterWider", spec := "filterWider", inPlace := ["internal/bytealg.IndexByteString", "internal/bytealg.IndexString"], unfollowed := true, recurses := true, named := ["internal/bytealg.MaxLen"], loops := true, apart := false, narrowed := true }
def FilterWiderUptoSaid : Prop := filterWiderUptoRow.holds Tryz.pinned (OpenSpec.upto filterWiderSpec)

/-- 'tributarylaw19.FilterKinds', WHERE WHAT IT READS IS OF BULK AT MOST 1048576: true; the input reads as it did. -/
def filterKindsUptoRow : OpenClaim := { program := "ytpcdngpppjdgcaagreat", sum := "f23ec79b39c7c6ea05dbf718744ccaf5eccedb4e071ae419c65ab0e5dad01a81", func := "tributary/tributarylaw19.FilterKinds", spec := "filterKinds", inPlace := ["internal/bytealg.IndexByteString", "internal/bytealg.IndexString"], unfollowed := true, recurses := true, named := ["internal/bytealg.MaxLen"], loops := true, apart := false, narrowed := true }
def FilterKindsUptoSaid : Prop := filterKindsUptoRow.holds Tryz.pinned (OpenSpec.upto filterKindsSpec)

end Rows
end Go.Proofs.YtpcdngpppjdgcaaGreat
