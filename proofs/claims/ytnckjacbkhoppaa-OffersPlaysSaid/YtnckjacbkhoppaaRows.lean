/-
  No cell of these rows narrows 'for every input' (looked for: loops, veiled, ifaces, maps, wideKeys, modest, calm, conditions, laid).
  DERIVED. THE GIVEN ROWS OF THIS SEAT. 12 by the template 'for every input the law returns true; each argument reads behind the call as it read before'; 0 by the template 'total and deterministic' (their statements: YtnckjacbkhoppaaTotals.lean).
  GIVEN WITH THE SEED: the statements are not yours to turn. If you find one false, say at which input.
  Laid BY PROGRAM, IN A SANDBOX (cutbox-rows.mjs): the forced cells as the released guide's own fill.sh prints them over the translation 4a17d5b80c408dfa… (all of the seat's roots in one cut). By AI agents, Wed Nov 11 2026. No macro, syntax, notation, axiom, sorry.
-/
import Derived.Test.YtnckjacbkhoppaaChecked
import GoSem.Claim
import GoSem.ClaimJoined
import GoSem.ClaimMapViews
import Derived.JoinedTies
import Derived.KernelRfl
namespace Go.Proofs.Ytnckjacbkhoppaa
/- THE CELL 'sum', in the pinned program and in every row, IS THE sha256 OF THE DUMP (.gsa) THAT YtnckjacbkhoppaaProg.lean LOADS. Nothing in Lean hashes anything: it is a label: what it is worth is what the hold of that sum in a sandbox is worth. -/
noncomputable def Try.pinned : Pinned := { name := "ytnckjacbkhoppaa", sum := "4a17d5b80c408dfafa85d19c6281d34210784473e13a780da80d2cf9a61b1add", checked := Try.checked }
namespace Rows
def none {H : Type} : Left H := { results := [], args := [] }

/-- 'manciplelaw15.PoolTells': WHATEVER THE INPUT: true; the input reads as it did. -/
def poolTellsSpec : ChangeSpec := { name := "poolTells", fn := fun _ => fun
  | [d1, d2, d3] => { results := [.lit (.bool true)], args := [d1, d2, d3] }
  | _ => none }
def poolTellsRow : OpenClaim := { program := "ytnckjacbkhoppaa", sum := "4a17d5b80c408dfafa85d19c6281d34210784473e13a780da80d2cf9a61b1add", func := "manciple/manciplelaw15.PoolTells", spec := "poolTells", unfollowed := true, recurses := true, plainKeys := false, apart := false }
def PoolTellsSaid : Prop := poolTellsRow.holds Try.pinned (OpenSpec.ofChange poolTellsSpec)

/-- ITS FALSE NEIGHBOUR: 'it returns false'. Refute it at one input. -/
def poolTellsWrong : ChangeSpec := { name := "poolTells", fn := fun _ => fun
  | [d1, d2, d3] => { results := [.lit (.bool false)], args := [d1, d2, d3] }
  | _ => none }
def PoolTellsWrongFalsely : Prop := poolTellsRow.holds Try.pinned (OpenSpec.ofChange poolTellsWrong)

/-- 'manciplelaw15.PoolSums': WHATEVER THE INPUT: true; the input reads as it did. -/
def poolSumsSpec : ChangeSpec := { name := "poolSums", fn := fun _ => fun
  | [d1, d2, d3] => { results := [.lit (.bool true)], args := [d1, d2, d3] }
  | _ => none }
def poolSumsRow : OpenClaim := { program := "ytnckjacbkhoppaa", sum := "4a17d5b80c408dfafa85d19c6281d34210784473e13a780da80d2cf9a61b1add", func := "manciple/manciplelaw15.PoolSums", spec := "poolSums", unfollowed := true, recurses := true, plainKeys := false, apart := false }
def PoolSumsSaid : Prop := poolSumsRow.holds Try.pinned (OpenSpec.ofChange poolSumsSpec)

/-- ITS FALSE NEIGHBOUR: 'it returns false'. Refute it at one input. -/
def poolSumsWrong : ChangeSpec := { name := "poolSums", fn := fun _ => fun
  | [d1, d2, d3] => { results := [.lit (.bool false)], args := [d1, d2, d3] }
  | _ => none }
def PoolSumsWrongFalsely : Prop := poolSumsRow.holds Try.pinned (OpenSpec.ofChange poolSumsWrong)

/-- 'manciplelaw15.PoolBack': WHATEVER THE INPUT: true; the input reads as it did. -/
def poolBackSpec : ChangeSpec := { name := "poolBack", fn := fun _ => fun
  | [d1, d2, d3] => { results := [.lit (.bool true)], args := [d1, d2, d3] }
  | _ => none }
def poolBackRow : OpenClaim := { program := "ytnckjacbkhoppaa", sum := "4a17d5b80c408dfafa85d19c6281d34210784473e13a780da80d2cf9a61b1add", func := "manciple/manciplelaw15.PoolBack", spec := "poolBack", unfollowed := true, recurses := true, plainKeys := false, apart := false }
def PoolBackSaid : Prop := poolBackRow.holds Try.pinned (OpenSpec.ofChange poolBackSpec)

/-- ITS FALSE NEIGHBOUR: 'it returns false'. Refute it at one input. -/
def poolBackWrong : ChangeSpec := { name := "poolBack", fn := fun _ => fun
  | [d1, d2, d3] => { results := [.lit (.bool false)], args := [d1, d2, d3] }
  | _ => none }
def PoolBackWrongFalsely : Prop := poolBackRow.holds Try.pinned (OpenSpec.ofChange poolBackWrong)

/-- 'manciplelaw24.OffersPlays': WHATEVER THE INPUT: true; the input reads as it did. -/
def offersPlaysSpec : ChangeSpec := { name := "offersPlays", fn := fun _ => fun
  | [d1, d2, d3] => { results := [.lit (.bool true)], args := [d1, d2, d3] }
  | _ => none }
def offersPlaysRow : OpenClaim := { program := "ytnckjacbkhoppaa", sum := "4a17d5b80c408dfafa85d19c6281d34210784473e13a780da80d2cf9a61b1add", func := "manciple/manciplelaw24.OffersPlays", spec := "offersPlays", recurses := true, plainKeys := false, apart := false }
def OffersPlaysSaid : Prop := offersPlaysRow.holds Try.pinned (OpenSpec.ofChange offersPlaysSpec)

/-- ITS FALSE NEIGHBOUR: 'it returns false'. Refute it at one input. -/
def offersPlaysWrong : ChangeSpec := { name := "offersPlays", fn := fun _ => fun
  | [d1, d2, d3] => { results := [.lit (.bool false)], args := [d1, d2, d3] }
  | _ => none }
def OffersPlaysWrongFalsely : Prop := offersPlaysRow.holds Try.pinned (OpenSpec.ofChange offersPlaysWrong)

/-- 'manciplelaw24.OffersOnce': WHATEVER THE INPUT: true; the input reads as it did. -/
def offersOnceSpec : ChangeSpec := { name := "offersOnce", fn := fun _ => fun
  | [d1, d2] => { results := [.lit (.bool true)], args := [d1, d2] }
  | _ => none }
def offersOnceRow : OpenClaim := { program := "ytnckjacbkhoppaa", sum := "4a17d5b80c408dfafa85d19c6281d34210784473e13a780da80d2cf9a61b1add", func := "manciple/manciplelaw24.OffersOnce", spec := "offersOnce", recurses := true, plainKeys := false, apart := false }
def OffersOnceSaid : Prop := offersOnceRow.holds Try.pinned (OpenSpec.ofChange offersOnceSpec)

/-- ITS FALSE NEIGHBOUR: 'it returns false'. Refute it at one input. -/
def offersOnceWrong : ChangeSpec := { name := "offersOnce", fn := fun _ => fun
  | [d1, d2] => { results := [.lit (.bool false)], args := [d1, d2] }
  | _ => none }
def OffersOnceWrongFalsely : Prop := offersOnceRow.holds Try.pinned (OpenSpec.ofChange offersOnceWrong)

/-- 'manciplelaw24.OffersShared': WHATEVER THE INPUT: true; the input reads as it did. -/
def offersSharedSpec : ChangeSpec := { name := "offersShared", fn := fun _ => fun
  | [d] => { results := [.lit (.bool true)], args := [d] }
  | _ => none }
def offersSharedRow : OpenClaim := { program := "ytnckjacbkhoppaa", sum := "4a17d5b80c408dfafa85d19c6281d34210784473e13a780da80d2cf9a61b1add", func := "manciple/manciplelaw24.OffersShared", spec := "offersShared", recurses := true, plainKeys := false, apart := false }
def OffersSharedSaid : Prop := offersSharedRow.holds Try.pinned (OpenSpec.ofChange offersSharedSpec)

/-- ITS FALSE NEIGHBOUR: 'it returns false'. Refute it at one input. -/
def offersSharedWrong : ChangeSpec := { name := "offersShared", fn := fun _ => fun
  | [d] => { results := [.lit (.bool false)], args := [d] }
  | _ => none }
def OffersSharedWrongFalsely : Prop := offersSharedRow.holds Try.pinned (OpenSpec.ofChange offersSharedWrong)

/-- 'manciplelaw25.TasksPlays': WHATEVER THE INPUT: true; the input reads as it did. -/
def tasksPlaysSpec : ChangeSpec := { name := "tasksPlays", fn := fun _ => fun
  | [d1, d2, d3] => { results := [.lit (.bool true)], args := [d1, d2, d3] }
  | _ => none }
def tasksPlaysRow : OpenClaim := { program := "ytnckjacbkhoppaa", sum := "4a17d5b80c408dfafa85d19c6281d34210784473e13a780da80d2cf9a61b1add", func := "manciple/manciplelaw25.TasksPlays", spec := "tasksPlays", unfollowed := true, recurses := true, plainKeys := false, apart := false }
def TasksPlaysSaid : Prop := tasksPlaysRow.holds Try.pinned (OpenSpec.ofChange tasksPlaysSpec)

/-- ITS FALSE NEIGHBOUR: 'it returns false'. Refute it at one input. -/
def tasksPlaysWrong : ChangeSpec := { name := "tasksPlays", fn := fun _ => fun
  | [d1, d2, d3] => { results := [.lit (.bool false)], args := [d1, d2, d3] }
  | _ => none }
def TasksPlaysWrongFalsely : Prop := tasksPlaysRow.holds Try.pinned (OpenSpec.ofChange tasksPlaysWrong)

/-- 'manciplelaw25.TasksApart': WHATEVER THE INPUT: true; the input reads as it did. -/
def tasksApartSpec : ChangeSpec := { name := "tasksApart", fn := fun _ => fun
  | [d1, d2] => { results := [.lit (.bool true)], args := [d1, d2] }
  | _ => none }
def tasksApartRow : OpenClaim := { program := "ytnckjacbkhoppaa", sum := "4a17d5b80c408dfafa85d19c6281d34210784473e13a780da80d2cf9a61b1add", func := "manciple/manciplelaw25.TasksApart", spec := "tasksApart", unfollowed := true, recurses := true, plainKeys := false, apart := false }
def TasksApartSaid : Prop := tasksApartRow.holds Try.pinned (OpenSpec.ofChange tasksApartSpec)

/-- ITS FALSE NEIGHBOUR: 'it returns false'. Refute it at one input. -/
def tasksApartWrong : ChangeSpec := { name := "tasksApart", fn := fun _ => fun
  | [d1, d2] => { results := [.lit (.bool false)], args := [d1, d2] }
  | _ => none }
def TasksApartWrongFalsely : Prop := tasksApartRow.holds Try.pinned (OpenSpec.ofChange tasksApartWrong)

/-- 'manciplelaw25.TasksSorted': WHATEVER THE INPUT: true; the input reads as it did. -/
def tasksSortedSpec : ChangeSpec := { name := "tasksSorted", fn := fun _ => fun
  | [d1, d2, d3] => { results := [.lit (.bool true)], args := [d1, d2, d3] }
  | _ => none }
def tasksSortedRow : OpenClaim := { program := "ytnckjacbkhoppaa", sum := "4a17d5b80c408dfafa85d19c6281d34210784473e13a780da80d2cf9a61b1add", func := "manciple/manciplelaw25.TasksSorted", spec := "tasksSorted", unfollowed := true, recurses := true, plainKeys := false, apart := false }
def TasksSortedSaid : Prop := tasksSortedRow.holds Try.pinned (OpenSpec.ofChange tasksSortedSpec)

/-- ITS FALSE NEIGHBOUR: 'it returns false'. Refute it at one input. -/
def tasksSortedWrong : ChangeSpec := { name := "tasksSorted", fn := fun _ => fun
  | [d1, d2, d3] => { results := [.lit (.bool false)], args := [d1, d2, d3] }
  | _ => none }
def TasksSortedWrongFalsely : Prop := tasksSortedRow.holds Try.pinned (OpenSpec.ofChange tasksSortedWrong)

/-- 'manciplelaw28.QueuePlays': WHATEVER THE INPUT: true; the input reads as it did. -/
def queuePlaysSpec : ChangeSpec := { name := "queuePlays", fn := fun _ => fun
  | [d1, d2] => { results := [.lit (.bool true)], args := [d1, d2] }
  | _ => none }
def queuePlaysRow : OpenClaim := { program := "ytnckjacbkhoppaa", sum := "4a17d5b80c408dfafa85d19c6281d34210784473e13a780da80d2cf9a61b1add", func := "manciple/manciplelaw28.QueuePlays", spec := "queuePlays", recurses := true, plainKeys := false, apart := false }
def QueuePlaysSaid : Prop := queuePlaysRow.holds Try.pinned (OpenSpec.ofChange queuePlaysSpec)

/-- ITS FALSE NEIGHBOUR: 'it returns false'. Refute it at one input. -/
def queuePlaysWrong : ChangeSpec := { name := "queuePlays", fn := fun _ => fun
  | [d1, d2] => { results := [.lit (.bool false)], args := [d1, d2] }
  | _ => none }
def QueuePlaysWrongFalsely : Prop := queuePlaysRow.holds Try.pinned (OpenSpec.ofChange queuePlaysWrong)

/-- 'manciplelaw28.QueueKeeps': WHATEVER THE INPUT: true; the input reads as it did. -/
def queueKeepsSpec : ChangeSpec := { name := "queueKeeps", fn := fun _ => fun
  | [d1, d2, d3] => { results := [.lit (.bool true)], args := [d1, d2, d3] }
  | _ => none }
def queueKeepsRow : OpenClaim := { program := "ytnckjacbkhoppaa", sum := "4a17d5b80c408dfafa85d19c6281d34210784473e13a780da80d2cf9a61b1add", func := "manciple/manciplelaw28.QueueKeeps", spec := "queueKeeps", recurses := true, plainKeys := false, apart := false }
def QueueKeepsSaid : Prop := queueKeepsRow.holds Try.pinned (OpenSpec.ofChange queueKeepsSpec)

/-- ITS FALSE NEIGHBOUR: 'it returns false'. Refute it at one input. -/
def queueKeepsWrong : ChangeSpec := { name := "queueKeeps", fn := fun _ => fun
  | [d1, d2, d3] => { results := [.lit (.bool false)], args := [d1, d2, d3] }
  | _ => none }
def QueueKeepsWrongFalsely : Prop := queueKeepsRow.holds Try.pinned (OpenSpec.ofChange queueKeepsWrong)

/-- 'manciplelaw28.QueueCuts': WHATEVER THE INPUT: true; the input reads as it did. -/
def queueCutsSpec : ChangeSpec := { name := "queueCuts", fn := fun _ => fun
  | [d1, d2, d3] => { results := [.lit (.bool true)], args := [d1, d2, d3] }
  | _ => none }
def queueCutsRow : OpenClaim := { program := "ytnckjacbkhoppaa", sum := "4a17d5b80c408dfafa85d19c6281d34210784473e13a780da80d2cf9a61b1add", func := "manciple/manciplelaw28.QueueCuts", spec := "queueCuts", recurses := true, plainKeys := false, apart := false }
def QueueCutsSaid : Prop := queueCutsRow.holds Try.pinned (OpenSpec.ofChange queueCutsSpec)

/-- ITS FALSE NEIGHBOUR: 'it returns false'. Refute it at one input. -/
def queueCutsWrong : ChangeSpec := { name := "queueCuts", fn := fun _ => fun
  | [d1, d2, d3] => { results := [.lit (.bool false)], args := [d1, d2, d3] }
  | _ => none }
def QueueCutsWrongFalsely : Prop := queueCutsRow.holds Try.pinned (OpenSpec.ofChange queueCutsWrong)

/- THE SECOND FORM. 'bulk': how many values and letters a reading holds, each counted each time it is reached (what is shared counts as often as it is met; a slice's spare places count too). A statement '..UptoSaid' is the law's where the arguments, and the package variables that the reading takes, are together of bulk at most 1048576: NARROWER than '..Said'. Prove '..Said' where nothing that the law and all that it calls make is longer than what came in: it says more and counts as full. Else prove '..UptoSaid'. A law counts once. -/
mutual
def uptoBulk {H : Type} : DataW H → Nat
  | .lit (.string bytes) => bytes.length + 1
  | .lit _ => 1
  | .nil => 1
  | .ptr d => uptoBulk d + 1
  | .slice elems spare => uptoBulkAll elems + uptoBulkAll spare + 1
  | .agg parts => uptoBulkAll parts + 1
  | .iface _ d => uptoBulk d + 1
  | .map entries => uptoBulkEntries entries + 1
  | .held _ => 1
def uptoBulkAll {H : Type} : List (DataW H) → Nat
  | [] => 0
  | d :: r => uptoBulk d + uptoBulkAll r
def uptoBulkEntries {H : Type} : List (Lit × DataW H) → Nat
  | [] => 0
  | x :: r => uptoBulkEntry x + uptoBulkEntries r
def uptoBulkEntry {H : Type} : Lit × DataW H → Nat
  | (.string bytes, d) => bytes.length + uptoBulk d + 1
  | (_, d) => uptoBulk d + 1
 end
def uptoSmall : (H : Type) → List (DataW H) → Bool := fun _ ds => decide (uptoBulkAll ds ≤ 1048576)
def OpenSpec.upto (s : _root_.Go.ChangeSpec) : _root_.Go.OpenSpec := { _root_.Go.OpenSpec.ofChange s with cond := some uptoSmall }

/-- 'manciplelaw15.PoolTells', WHERE WHAT IT READS IS OF BULK AT MOST 1048576: true; the input reads as it did. -/
def poolTellsUptoRow : OpenClaim := { program := "ytnckjacbkhoppaa", sum := "4a17d5b80c408dfafa85d19c6281d34210784473e13a780da80d2cf9a61b1add", func := "manciple/manciplelaw15.PoolTells", spec := "poolTells", unfollowed := true, recurses := true, plainKeys := false, apart := false, narrowed := true }
def PoolTellsUptoSaid : Prop := poolTellsUptoRow.holds Try.pinned (OpenSpec.upto poolTellsSpec)

/-- 'manciplelaw15.PoolSums', WHERE WHAT IT READS IS OF BULK AT MOST 1048576: true; the input reads as it did. -/
def poolSumsUptoRow : OpenClaim := { program := "ytnckjacbkhoppaa", sum := "4a17d5b80c408dfafa85d19c6281d34210784473e13a780da80d2cf9a61b1add", func := "manciple/manciplelaw15.PoolSums", spec := "poolSums", unfollowed := true, recurses := true, plainKeys := false, apart := false, narrowed := true }
def PoolSumsUptoSaid : Prop := poolSumsUptoRow.holds Try.pinned (OpenSpec.upto poolSumsSpec)

/-- 'manciplelaw15.PoolBack', WHERE WHAT IT READS IS OF BULK AT MOST 1048576: true; the input reads as it did. -/
def poolBackUptoRow : OpenClaim := { program := "ytnckjacbkhoppaa", sum := "4a17d5b80c408dfafa85d19c6281d34210784473e13a780da80d2cf9a61b1add", func := "manciple/manciplelaw15.PoolBack", spec := "poolBack", unfollowed := true, recurses := true, plainKeys := false, apart := false, narrowed := true }
def PoolBackUptoSaid : Prop := poolBackUptoRow.holds Try.pinned (OpenSpec.upto poolBackSpec)

/-- 'manciplelaw24.OffersPlays', WHERE WHAT IT READS IS OF BULK AT MOST 1048576: true; the input reads as it did. -/
def offersPlaysUptoRow : OpenClaim := { program := "ytnckjacbkhoppaa", sum := "4a17d5b80c408dfafa85d19c6281d34210784473e13a780da80d2cf9a61b1add", func := "manciple/manciplelaw24.OffersPlays", spec := "offersPlays", recurses := true, plainKeys := false, apart := false, narrowed := true }
def OffersPlaysUptoSaid : Prop := offersPlaysUptoRow.holds Try.pinned (OpenSpec.upto offersPlaysSpec)

/-- 'manciplelaw24.OffersOnce', WHERE WHAT IT READS IS OF BULK AT MOST 1048576: true; the input reads as it did. -/
def offersOnceUptoRow : OpenClaim := { program := "ytnckjacbkhoppaa", sum := "4a17d5b80c408dfafa85d19c6281d34210784473e13a780da80d2cf9a61b1add", func := "manciple/manciplelaw24.OffersOnce", spec := "offersOnce", recurses := true, plainKeys := false, apart := false, narrowed := true }
def OffersOnceUptoSaid : Prop := offersOnceUptoRow.holds Try.pinned (OpenSpec.upto offersOnceSpec)

/-- 'manciplelaw24.OffersShared', WHERE WHAT IT READS IS OF BULK AT MOST 1048576: true; the input reads as it did. -/
def offersSharedUptoRow : OpenClaim := { program := "ytnckjacbkhoppaa", sum := "4a17d5b80c408dfafa85d19c6281d34210784473e13a780da80d2cf9a61b1add", func := "manciple/manciplelaw24.OffersShared", spec := "offersShared", recurses := true, plainKeys := false, apart := false, narrowed := true }
def OffersSharedUptoSaid : Prop := offersSharedUptoRow.holds Try.pinned (OpenSpec.upto offersSharedSpec)

/-- 'manciplelaw25.TasksPlays', WHERE WHAT IT READS IS OF BULK AT MOST 1048576: true; the input reads as it did. -/
def tasksPlaysUptoRow : OpenClaim := { program := "ytnckjacbkhoppaa", sum := "4a17d5b80c408dfafa85d19c6281d34210784473e13a780da80d2cf9a61b1add", func := "manciple/manciplelaw25.TasksPlays", spec := "tasksPlays", unfollowed := true, recurses := true, plainKeys := false, apart := false, narrowed := true }
def TasksPlaysUptoSaid : Prop := tasksPlaysUptoRow.holds Try.pinned (OpenSpec.upto tasksPlaysSpec)

/-- 'manciplelaw25.TasksApart', WHERE WHAT IT READS IS OF BULK AT MOST 1048576: true; the input reads as it did. -/
def tasksApartUptoRow : OpenClaim := { program := "ytnckjacbkhoppaa", sum := "4a17d5b80c408dfafa85d19c6281d34210784473e13a780da80d2cf9a61b1add", func := "manciple/manciplelaw25.TasksApart", spec := "tasksApart", unfollowed := true, recurses := true, plainKeys := false, apart := false, narrowed := true }
def TasksApartUptoSaid : Prop := tasksApartUptoRow.holds Try.pinned (OpenSpec.upto tasksApartSpec)

/-- 'manciplelaw25.TasksSorted', WHERE WHAT IT READS IS OF BULK AT MOST 1048576: true; the input reads as it did. -/
def tasksSortedUptoRow : OpenClaim := { program := "ytnckjacbkhoppaa", sum := "4a17d5b80c408dfafa85d19c6281d34210784473e13a780da80d2cf9a61b1add", func := "manciple/manciplelaw25.TasksSorted", spec := "tasksSorted", unfollowed := true, recurses := true, plainKeys := false, apart := false, narrowed := true }
def TasksSortedUptoSaid : Prop := tasksSortedUptoRow.holds Try.pinned (OpenSpec.upto tasksSortedSpec)

/-- 'manciplelaw28.QueuePlays', WHERE WHAT IT READS IS OF BULK AT MOST 1048576: true; the input reads as it did. -/
def queuePlaysUptoRow : OpenClaim := { program := "ytnckjacbkhoppaa", sum := "4a17d5b80c408dfafa85d19c6281d34210784473e13a780da80d2cf9a61b1add", func := "manciple/manciplelaw28.QueuePlays", spec := "queuePlays", recurses := true, plainKeys := false, apart := false, narrowed := true }
def QueuePlaysUptoSaid : Prop := queuePlaysUptoRow.holds Try.pinned (OpenSpec.upto queuePlaysSpec)

/-- 'manciplelaw28.QueueKeeps', WHERE WHAT IT READS IS OF BULK AT MOST 1048576: true; the input reads as it did. -/
def queueKeepsUptoRow : OpenClaim := { program := "ytnckjacbkhoppaa", sum := "4a17d5b80c408dfafa85d19c6281d34210784473e13a780da80d2cf9a61b1add", func := "manciple/manciplelaw28.QueueKeeps", spec := "queueKeeps", recurses := true, plainKeys := false, apart := false, narrowed := true }
def QueueKeepsUptoSaid : Prop := queueKeepsUptoRow.holds Try.pinned (OpenSpec.upto queueKeepsSpec)

/-- 'manciplelaw28.QueueCuts', WHERE WHAT IT READS IS OF BULK AT MOST 1048576: true; the input reads as it did. -/
def queueCutsUptoRow : OpenClaim := { program := "ytnckjacbkhoppaa", sum := "4a17d5b80c408dfafa85d19c6281d34210784473e13a780da80d2cf9a61b1add", func := "manciple/manciplelaw28.QueueCuts", spec := "queueCuts", recurses := true, plainKeys := false, apart := false, narrowed := true }
def QueueCutsUptoSaid : Prop := queueCutsUptoRow.holds Try.pinned (OpenSpec.upto queueCutsSpec)

end Rows
end Go.Proofs.Ytnckjacbkhoppaa
