/-
  No cell of these rows narrows 'for every input' (looked for: loops, veiled, ifaces, maps, wideKeys, modest, calm, conditions, laid).
  DERIVED. THE GIVEN ROWS OF THIS SEAT. 8 by the template 'for every input the law returns true; each argument reads behind the call as it read before'; 0 by the template 'total and deterministic' (their statements: YtennhfkhdfalfaaTotals.lean).
  GIVEN WITH THE SEED: the statements are not yours to turn. If you find one false, say at which input.
  Laid BY PROGRAM, IN A SANDBOX (cutbox-rows.mjs): the forced cells as the released guide's own fill.sh prints them over the translation e059859dd86067b7… (all of the seat's roots in one cut). By AI agents, Wed Nov 11 2026. No macro, syntax, notation, axiom, sorry.
-/
import Derived.Test.YtennhfkhdfalfaaChecked
import GoSem.Claim
import GoSem.ClaimJoined
import GoSem.ClaimMapViews
import Derived.JoinedTies
import Derived.KernelRfl
namespace Go.Proofs.Ytennhfkhdfalfaa
/- THE CELL 'sum', in the pinned program and in every row, IS THE sha256 OF THE DUMP (.gsa) THAT YtennhfkhdfalfaaProg.lean LOADS. Nothing in Lean hashes anything: it is a label: what it is worth is what the hold of that sum in a sandbox is worth. -/
noncomputable def Try.pinned : Pinned := { name := "ytennhfkhdfalfaa", sum := "e059859dd86067b75c5288897317723f07de8e05fb72ffd8de9b0db84594a03a", checked := Try.checked }
namespace Rows
def none {H : Type} : Left H := { results := [], args := [] }

/-- 'manciplelaw22.AgentsPlays': WHATEVER THE INPUT: true; the input reads as it did. -/
def agentsPlaysSpec : ChangeSpec := { name := "agentsPlays", fn := fun _ => fun
  | [d1, d2, d3] => { results := [.lit (.bool true)], args := [d1, d2, d3] }
  | _ => none }
def agentsPlaysRow : OpenClaim := { program := "ytennhfkhdfalfaa", sum := "e059859dd86067b75c5288897317723f07de8e05fb72ffd8de9b0db84594a03a", func := "manciple/manciplelaw22.AgentsPlays", spec := "agentsPlays", unfollowed := true, recurses := true, plainKeys := false, apart := false }
def AgentsPlaysSaid : Prop := agentsPlaysRow.holds Try.pinned (OpenSpec.ofChange agentsPlaysSpec)

/-- ITS FALSE NEIGHBOUR: 'it returns false'. Refute it at one input. -/
def agentsPlaysWrong : ChangeSpec := { name := "agentsPlays", fn := fun _ => fun
  | [d1, d2, d3] => { results := [.lit (.bool false)], args := [d1, d2, d3] }
  | _ => none }
def AgentsPlaysWrongFalsely : Prop := agentsPlaysRow.holds Try.pinned (OpenSpec.ofChange agentsPlaysWrong)

/-- 'manciplelaw22.AgentsKeep': WHATEVER THE INPUT: true; the input reads as it did. -/
def agentsKeepSpec : ChangeSpec := { name := "agentsKeep", fn := fun _ => fun
  | [d1, d2, d3] => { results := [.lit (.bool true)], args := [d1, d2, d3] }
  | _ => none }
def agentsKeepRow : OpenClaim := { program := "ytennhfkhdfalfaa", sum := "e059859dd86067b75c5288897317723f07de8e05fb72ffd8de9b0db84594a03a", func := "manciple/manciplelaw22.AgentsKeep", spec := "agentsKeep", unfollowed := true, recurses := true, plainKeys := false, apart := false }
def AgentsKeepSaid : Prop := agentsKeepRow.holds Try.pinned (OpenSpec.ofChange agentsKeepSpec)

/-- ITS FALSE NEIGHBOUR: 'it returns false'. Refute it at one input. -/
def agentsKeepWrong : ChangeSpec := { name := "agentsKeep", fn := fun _ => fun
  | [d1, d2, d3] => { results := [.lit (.bool false)], args := [d1, d2, d3] }
  | _ => none }
def AgentsKeepWrongFalsely : Prop := agentsKeepRow.holds Try.pinned (OpenSpec.ofChange agentsKeepWrong)

/-- 'manciplelaw22.AgentsBack': WHATEVER THE INPUT: true; the input reads as it did. -/
def agentsBackSpec : ChangeSpec := { name := "agentsBack", fn := fun _ => fun
  | [d1, d2, d3] => { results := [.lit (.bool true)], args := [d1, d2, d3] }
  | _ => none }
def agentsBackRow : OpenClaim := { program := "ytennhfkhdfalfaa", sum := "e059859dd86067b75c5288897317723f07de8e05fb72ffd8de9b0db84594a03a", func := "manciple/manciplelaw22.AgentsBack", spec := "agentsBack", unfollowed := true, recurses := true, plainKeys := false, apart := false }
def AgentsBackSaid : Prop := agentsBackRow.holds Try.pinned (OpenSpec.ofChange agentsBackSpec)

/-- ITS FALSE NEIGHBOUR: 'it returns false'. Refute it at one input. -/
def agentsBackWrong : ChangeSpec := { name := "agentsBack", fn := fun _ => fun
  | [d1, d2, d3] => { results := [.lit (.bool false)], args := [d1, d2, d3] }
  | _ => none }
def AgentsBackWrongFalsely : Prop := agentsBackRow.holds Try.pinned (OpenSpec.ofChange agentsBackWrong)

/-- 'manciplelaw26.FiltersPlays': WHATEVER THE INPUT: true; the input reads as it did. -/
def filtersPlaysSpec : ChangeSpec := { name := "filtersPlays", fn := fun _ => fun
  | [d1, d2, d3] => { results := [.lit (.bool true)], args := [d1, d2, d3] }
  | _ => none }
def filtersPlaysRow : OpenClaim := { program := "ytennhfkhdfalfaa", sum := "e059859dd86067b75c5288897317723f07de8e05fb72ffd8de9b0db84594a03a", func := "manciple/manciplelaw26.FiltersPlays", spec := "filtersPlays", unfollowed := true, recurses := true, plainKeys := false, apart := false }
def FiltersPlaysSaid : Prop := filtersPlaysRow.holds Try.pinned (OpenSpec.ofChange filtersPlaysSpec)

/-- ITS FALSE NEIGHBOUR: 'it returns false'. Refute it at one input. -/
def filtersPlaysWrong : ChangeSpec := { name := "filtersPlays", fn := fun _ => fun
  | [d1, d2, d3] => { results := [.lit (.bool false)], args := [d1, d2, d3] }
  | _ => none }
def FiltersPlaysWrongFalsely : Prop := filtersPlaysRow.holds Try.pinned (OpenSpec.ofChange filtersPlaysWrong)

/-- 'manciplelaw26.FiltersGrow': WHATEVER THE INPUT: true; the input reads as it did. -/
def filtersGrowSpec : ChangeSpec := { name := "filtersGrow", fn := fun _ => fun
  | [d1, d2, d3] => { results := [.lit (.bool true)], args := [d1, d2, d3] }
  | _ => none }
def filtersGrowRow : OpenClaim := { program := "ytennhfkhdfalfaa", sum := "e059859dd86067b75c5288897317723f07de8e05fb72ffd8de9b0db84594a03a", func := "manciple/manciplelaw26.FiltersGrow", spec := "filtersGrow", unfollowed := true, recurses := true, plainKeys := false, apart := false }
def FiltersGrowSaid : Prop := filtersGrowRow.holds Try.pinned (OpenSpec.ofChange filtersGrowSpec)

/-- ITS FALSE NEIGHBOUR: 'it returns false'. Refute it at one input. -/
def filtersGrowWrong : ChangeSpec := { name := "filtersGrow", fn := fun _ => fun
  | [d1, d2, d3] => { results := [.lit (.bool false)], args := [d1, d2, d3] }
  | _ => none }
def FiltersGrowWrongFalsely : Prop := filtersGrowRow.holds Try.pinned (OpenSpec.ofChange filtersGrowWrong)

/-- 'manciplelaw26.FiltersGo': WHATEVER THE INPUT: true; the input reads as it did. -/
def filtersGoSpec : ChangeSpec := { name := "filtersGo", fn := fun _ => fun
  | [d1, d2, d3] => { results := [.lit (.bool true)], args := [d1, d2, d3] }
  | _ => none }
def filtersGoRow : OpenClaim := { program := "ytennhfkhdfalfaa", sum := "e059859dd86067b75c5288897317723f07de8e05fb72ffd8de9b0db84594a03a", func := "manciple/manciplelaw26.FiltersGo", spec := "filtersGo", unfollowed := true, recurses := true, plainKeys := false, apart := false }
def FiltersGoSaid : Prop := filtersGoRow.holds Try.pinned (OpenSpec.ofChange filtersGoSpec)

/-- ITS FALSE NEIGHBOUR: 'it returns false'. Refute it at one input. -/
def filtersGoWrong : ChangeSpec := { name := "filtersGo", fn := fun _ => fun
  | [d1, d2, d3] => { results := [.lit (.bool false)], args := [d1, d2, d3] }
  | _ => none }
def FiltersGoWrongFalsely : Prop := filtersGoRow.holds Try.pinned (OpenSpec.ofChange filtersGoWrong)

/-- 'manciplelaw30.LifeLives': WHATEVER THE INPUT: true; the input reads as it did. -/
def lifeLivesSpec : ChangeSpec := { name := "lifeLives", fn := fun _ => fun
  | [d] => { results := [.lit (.bool true)], args := [d] }
  | _ => none }
def lifeLivesRow : OpenClaim := { program := "ytennhfkhdfalfaa", sum := "e059859dd86067b75c5288897317723f07de8e05fb72ffd8de9b0db84594a03a", func := "manciple/manciplelaw30.LifeLives", spec := "lifeLives", plainKeys := false, apart := false }
def LifeLivesSaid : Prop := lifeLivesRow.holds Try.pinned (OpenSpec.ofChange lifeLivesSpec)

/-- ITS FALSE NEIGHBOUR: 'it returns false'. Refute it at one input. -/
def lifeLivesWrong : ChangeSpec := { name := "lifeLives", fn := fun _ => fun
  | [d] => { results := [.lit (.bool false)], args := [d] }
  | _ => none }
def LifeLivesWrongFalsely : Prop := lifeLivesRow.holds Try.pinned (OpenSpec.ofChange lifeLivesWrong)

/-- 'manciplelaw30.LifeOnce': WHATEVER THE INPUT: true; the input reads as it did. -/
def lifeOnceSpec : ChangeSpec := { name := "lifeOnce", fn := fun _ => fun
  | [d] => { results := [.lit (.bool true)], args := [d] }
  | _ => none }
def lifeOnceRow : OpenClaim := { program := "ytennhfkhdfalfaa", sum := "e059859dd86067b75c5288897317723f07de8e05fb72ffd8de9b0db84594a03a", func := "manciple/manciplelaw30.LifeOnce", spec := "lifeOnce", plainKeys := false, apart := false }
def LifeOnceSaid : Prop := lifeOnceRow.holds Try.pinned (OpenSpec.ofChange lifeOnceSpec)

/-- ITS FALSE NEIGHBOUR: 'it returns false'. Refute it at one input. -/
def lifeOnceWrong : ChangeSpec := { name := "lifeOnce", fn := fun _ => fun
  | [d] => { results := [.lit (.bool false)], args := [d] }
  | _ => none }
def LifeOnceWrongFalsely : Prop := lifeOnceRow.holds Try.pinned (OpenSpec.ofChange lifeOnceWrong)

/- THE SECOND FORM. 'bulk': how many values and letters a reading holds, each counted each time it is reached (what is shared counts as often as it is met; a slice's spare places count too). A statement '..UptoSaid' is the law's where the arguments, and the package variables that the reading takes, are together of bulk at most 1048576: NARROWER than '..Said'. Prove '..Said' where nothing that the law and all that it calls make is longer than what came in: it says more and counts as full. Else prove '..UptoSaid'. A law counts once. -/
mutual
def uptoBulk {H : Type} : DataW H → Nat
  | .lit (.string bytes) => bytes.length + 1
  | .lit _ => 1
  | .nil => 1
  | .ptr d => uptoBulk d + 1
  | .slice elems spare => uptoBulkAll elems + uptoBulkAll spare + 1
  | .agg parts => uptoBulkAll parts + 1
  | .iface _ d => uptoBulk d + 1
  | .map entries => uptoBulkEntries entries + 1
  | .held _ => 1
def uptoBulkAll {H : Type} : List (DataW H) → Nat
  | [] => 0
  | d :: r => uptoBulk d + uptoBulkAll r
def uptoBulkEntries {H : Type} : List (Lit × DataW H) → Nat
  | [] => 0
  | x :: r => uptoBulkEntry x + uptoBulkEntries r
def uptoBulkEntry {H : Type} : Lit × DataW H → Nat
  | (.string bytes, d) => bytes.length + uptoBulk d + 1
  | (_, d) => uptoBulk d + 1
 end
def uptoSmall : (H : Type) → List (DataW H) → Bool := fun _ ds => decide (uptoBulkAll ds ≤ 1048576)
def OpenSpec.upto (s : _root_.Go.ChangeSpec) : _root_.Go.OpenSpec := { _root_.Go.OpenSpec.ofChange s with cond := some uptoSmall }

/-- 'manciplelaw22.AgentsPlays', WHERE WHAT IT READS IS OF BULK AT MOST 1048576: true; the input reads as it did. -/
def agentsPlaysUptoRow : OpenClaim := { program := "ytennhfkhdfalfaa", sum := "e059859dd86067b75c5288897317723f07de8e05fb72ffd8de9b0db84594a03a", func := "manciple/manciplelaw22.AgentsPlays", spec := "agentsPlays", unfollowed := true, recurses := true, plainKeys := false, apart := false, narrowed := true }
def AgentsPlaysUptoSaid : Prop := agentsPlaysUptoRow.holds Try.pinned (OpenSpec.upto agentsPlaysSpec)

/-- 'manciplelaw22.AgentsKeep', WHERE WHAT IT READS IS OF BULK AT MOST 1048576: true; the input reads as it did. -/
def agentsKeepUptoRow : OpenClaim := { program := "ytennhfkhdfalfaa", sum := "e059859dd86067b75c5288897317723f07de8e05fb72ffd8de9b0db84594a03a", func := "manciple/manciplelaw22.AgentsKeep", spec := "agentsKeep", unfollowed := true, recurses := true, plainKeys := false, apart := false, narrowed := true }
def AgentsKeepUptoSaid : Prop := agentsKeepUptoRow.holds Try.pinned (OpenSpec.upto agentsKeepSpec)

/-- 'manciplelaw22.AgentsBack', WHERE WHAT IT READS IS OF BULK AT MOST 1048576: true; the input reads as it did. -/
def agentsBackUptoRow : OpenClaim := { program := "ytennhfkhdfalfaa", sum := "e059859dd86067b75c5288897317723f07de8e05fb72ffd8de9b0db84594a03a", func := "manciple/manciplelaw22.AgentsBack", spec := "agentsBack", unfollowed := true, recurses := true, plainKeys := false, apart := false, narrowed := true }
def AgentsBackUptoSaid : Prop := agentsBackUptoRow.holds Try.pinned (OpenSpec.upto agentsBackSpec)

/-- 'manciplelaw26.FiltersPlays', WHERE WHAT IT READS IS OF BULK AT MOST 1048576: true; the input reads as it did. -/
def filtersPlaysUptoRow : OpenClaim := { program := "ytennhfkhdfalfaa", sum := "e059859dd86067b75c5288897317723f07de8e05fb72ffd8de9b0db84594a03a", func := "manciple/manciplelaw26.FiltersPlays", spec := "filtersPlays", unfollowed := true, recurses := true, plainKeys := false, apart := false, narrowed := true }
def FiltersPlaysUptoSaid : Prop := filtersPlaysUptoRow.holds Try.pinned (OpenSpec.upto filtersPlaysSpec)

/-- 'manciplelaw26.FiltersGrow', WHERE WHAT IT READS IS OF BULK AT MOST 1048576: true; the input reads as it did. -/
def filtersGrowUptoRow : OpenClaim := { program := "ytennhfkhdfalfaa", sum := "e059859dd86067b75c5288897317723f07de8e05fb72ffd8de9b0db84594a03a", func := "manciple/manciplelaw26.FiltersGrow", spec := "filtersGrow", unfollowed := true, recurses := true, plainKeys := false, apart := false, narrowed := true }
def FiltersGrowUptoSaid : Prop := filtersGrowUptoRow.holds Try.pinned (OpenSpec.upto filtersGrowSpec)

/-- 'manciplelaw26.FiltersGo', WHERE WHAT IT READS IS OF BULK AT MOST 1048576: true; the input reads as it did. -/
def filtersGoUptoRow : OpenClaim := { program := "ytennhfkhdfalfaa", sum := "e059859dd86067b75c5288897317723f07de8e05fb72ffd8de9b0db84594a03a", func := "manciple/manciplelaw26.FiltersGo", spec := "filtersGo", unfollowed := true, recurses := true, plainKeys := false, apart := false, narrowed := true }
def FiltersGoUptoSaid : Prop := filtersGoUptoRow.holds Try.pinned (OpenSpec.upto filtersGoSpec)

/-- 'manciplelaw30.LifeLives', WHERE WHAT IT READS IS OF BULK AT MOST 1048576: true; the input reads as it did. -/
def lifeLivesUptoRow : OpenClaim := { program := "ytennhfkhdfalfaa", sum := "e059859dd86067b75c5288897317723f07de8e05fb72ffd8de9b0db84594a03a", func := "manciple/manciplelaw30.LifeLives", spec := "lifeLives", plainKeys := false, apart := false, narrowed := true }
def LifeLivesUptoSaid : Prop := lifeLivesUptoRow.holds Try.pinned (OpenSpec.upto lifeLivesSpec)

/-- 'manciplelaw30.LifeOnce', WHERE WHAT IT READS IS OF BULK AT MOST 1048576: true; the input reads as it did. -/
def lifeOnceUptoRow : OpenClaim := { program := "ytennhfkhdfalfaa", sum := "e059859dd86067b75c5288897317723f07de8e05fb72ffd8de9b0db84594a03a", func := "manciple/manciplelaw30.LifeOnce", spec := "lifeOnce", plainKeys := false, apart := false, narrowed := true }
def LifeOnceUptoSaid : Prop := lifeOnceUptoRow.holds Try.pinned (OpenSpec.upto lifeOnceSpec)

end Rows
end Go.Proofs.Ytennhfkhdfalfaa
