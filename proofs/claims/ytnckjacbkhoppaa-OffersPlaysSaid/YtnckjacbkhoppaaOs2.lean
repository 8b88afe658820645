/- offers: sorted. -/
import Derived.Test.YtnckjacbkhoppaaOs1
import Derived.Test.YtnckjacbkhoppaaSrtI
import Derived.Laws.MakeOwn
import Derived.Laws.IdiomRangeMap
namespace Go.Proofs.Ytnckjacbkhoppaa
open Go.RowKit Go.Maps Go.MapKept
open Go.ChangeMaps (setBlock)
attribute [local go_sem] ext_cell ext_frozen extC_cell extC_frozen Mix.calmUpon Mix.mUpon
theorem infoI64 : (Try.prog.info? 2).map (fun i => (i.zero, i.size, i.bytes)) = some (some (.int .i64 0), 1, 8) := by kernel_rfl
def lenV : Value → Nat
  | .slice _ n _ => n
  | _ => 0
theorem iapp {w : World} {base : Nat} {v : Value} {l : List Int} {b : Nat} (h : OwnL 2 1 ienc w base v l) (x : Int) (hx : w.cell? ⟨b, 0, none⟩ = some (.int .i64 x)) (hl : l.length < 1000000) (hb : base ≤ w.heap.size) :
    ∃ v' w', (Builtin.append_ #[73, 73] 73 #[v, .slice (some ⟨b, 0, none⟩) 1 1]).run Try.prog w = .ok v' w' ∧ OwnL 2 1 ienc w' base v' (l ++ [x]) ∧ w.grownBy w' v.ownBlock ∧ (v'.ownBlock = v.ownBlock ∨ v'.ownBlock = some w.heap.size) := by
  obtain ⟨i0, hi, hz0, hz1, hz2⟩ := info_parts infoI64
  exact OwnL.app h Try.underlying73 hi hz0 hz1 hz2 rfl (by decide) ienc_len x (fun j u hj => by
    rcases j with _ | j <;> simp [ienc] at hj
    subst hj; exact hx) (fun u hu => by simp [ienc] at hu; rw [hu]; rfl) (by omega) (by unfold maxLen; omega) hb
theorem erase_perm {α : Type} : ∀ {l : List α} {j : Nat} {x : α}, l[j]? = some x → (x :: l.eraseIdx j).Perm l
  | [], j, x, h => by simp at h
  | a :: t, 0, x, h => by
    simp at h; subst h; exact .refl _
  | a :: t, j + 1, x, h => by
    rw [List.eraseIdx_cons_succ]
    exact (List.Perm.swap a x _).trans ((erase_perm (by simpa using h)).cons a)
/-- Where ranging over a map for its keys stands. -/
structure QG (W wr : World) (M it : Nat) (L : List (Int × Value)) (K : List Int) (v : Value) (C : List Int) (todo : List (Int × Value)) : Prop where
  mi : MapI K64 wr M it L todo
  own : OwnL 2 1 ienc wr W.heap.size v C
  perm : (C ++ todo.map (·.1)).Perm K
  bel : Below W.heap.size W wr
  it0 : W.heap.size ≤ it
  off : v.ownBlock ≠ some it
section
variable {w : World} {M : Nat} {L : List (Int × Value)}
set_option maxRecDepth 100000 in
set_option maxHeartbeats 1000000 in
theorem sortedU (h : MapK K64 w M L) {K : List Int} (hK : (L.map (·.1)).Perm K) (hS : K.Pairwise (· < ·)) (hl : K.length < 1000000) : Calls Try.prog 93 #[.map (some M)] w fun e w' => ∃ u, e = .returned u ∧ RS 1 ienc w' u K ∧ (∀ b, u.ownBlock = some b → w.heap.size ≤ b ∧ b < w'.heap.size) ∧ Below w.heap.size w w' := by
  have HSK := Lib.hid hS
  have hLS : L.length = K.length := by have := hK.length_eq; simpa using this
  have HLS := Lib.hid hLS
  have hlen := h.len Try.underlying158 3
  rw [hLS] at hlen
  obtain ⟨i0, hi, hz0, hz1, hz2⟩ := info_parts infoI64
  obtain ⟨w1, hmk, hown, hgr⟩ := run_makeSlice_owned (P := Try.prog) (w := w) w.heap.size 73 2 i0 _ 1 Try.underlying73 hi hz0 hz1 .i64 .i64 K.length (by omega) (by rw [hz2]; omega) (by unfold maxLen; omega) (Nat.le_refl _)
  have hb1 : Below w.heap.size w w1 := (Chg.of_grown (F := fun _ => False) hgr fun b e => by cases e).below (Nat.le_refl _) fun k e => e.elim
  have hs1 : w.heap.size < w1.heap.size := by
    rcases hown.2 with ⟨e, _⟩ | ⟨b, cap, cur, e, _, hg, _⟩
    · cases e
    · cases e; exact (Array.getElem?_eq_some_iff.1 hg).1
  have hM1 := h.below hb1 h.lt
  obtain ⟨o, hrun, hmi⟩ := hM1.range Try.underlying158
  obtain ⟨it, hit⟩ : ∃ it, it = w1.heap.size := ⟨_, rfl⟩
  rw [← hit] at hrun hmi
  have HI := Lib.hid (show QG w (w1.alloc o) M it L K (.slice (some ⟨w.heap.size, 0, none⟩) 0 K.length) [] L from ⟨hmi, (show OwnL 2 1 ienc w1 w.heap.size _ [] from hown).below (ba (Below.refl _ _) _), by simpa using hK, hb1.trans ((ba (Below.refl _ _) _).mono (by omega)), by omega, by simp [Value.ownBlock]; omega⟩)
  have HN := Lib.hid (show M < w.heap.size from h.lt)
  have HIT := Lib.hid hit
  clear hmi h hown hgr hb1 hK hit hM1 hi hz0 hz1 hz2 i0
  go_enter Try.func93, Try.ntmps93
  go_wp2
  clear hlen hmk hLS hS hrun hs1
  go_loopw [3] (fun lv wr => ∃ (C : List Int) (todo : List (Int × Value)), lenV lv = C.length ∧ C.length + todo.length = K.length ∧ Hid (QG w wr M it L K lv C todo)) (fun lv _ => K.length - lenV lv)
  case atStart => exact ⟨[], L, rfl, by have := HLS.out; simpa using this, HI⟩
  case round =>
    clear HI
    obtain ⟨C, todo, hlv, hlen, HG⟩ := hrel
    obtain ⟨w2, rfl⟩ : ∃ w2, w2 = wr := ⟨_, rfl⟩
    rcases HG.out.mi.next 0 with ⟨htd, hrn⟩ | ⟨p, j, w3, hj, _, hrn, hre, hmi, hch⟩
    · have hp := HG.out.perm
      rw [htd, List.map_nil, List.append_nil] at hp
      have HSRT := Lib.hid (isort HG.out.own hp HSK.out (by have := hp.length_eq; omega))
      have HOW := Lib.hid HG.out.own.lt
      have HBB := Lib.hid HG.out.bel
      clear hp htd
      go_wp2_with fail
      refine HSRT.out.mono ?_
      rintro e w4 ⟨rfl, hrs, hc⟩
      have HRS := Lib.hid hrs
      have HC := Lib.hid hc
      clear hrs hc hrn
      go_wp2
      go_ret
      exact ⟨u3, rfl, HRS.out, fun b hb => ⟨(HOW.out b hb).1, Nat.lt_of_lt_of_le (HOW.out b hb).2 HC.out.size⟩, ((Chg.of_below _ HBB.out).same HC.out).below (Nat.le_refl _) fun k hk => (HOW.out k hk).1⟩
    · have hol := HG.out.own.lt
      have hoff := HG.out.off
      have hpm : ((C ++ [p.1]) ++ (todo.eraseIdx j).map (·.1)).Perm K := by
        refine List.Perm.trans ?_ HG.out.perm
        rw [List.append_assoc]
        refine List.Perm.append_left _ ?_
        rw [← List.map_singleton (f := fun q : Int × Value => q.1), ← List.map_append]
        exact (erase_perm hj).map _
      obtain ⟨pk, pv⟩ := p
      have own3 : OwnL 2 1 ienc w3 w.heap.size u3 C := HG.out.own.chg hch fun b hb e => hoff (by rw [hb, e])
      have bel3 : Below w.heap.size w w3 := HG.out.bel.trans (hch.below HG.out.bel.size fun k e => by rw [e]; exact HG.out.it0)
      have hbb : Below w3.heap.size w3 (w3.alloc (.cells #[.int .i64 pk] 2)) := ba (Below.refl _ _) _
      obtain ⟨v2, w6, hra, o6, g6, b6⟩ := iapp (b := w3.heap.size) (own3.below hbb) pk (by simp) (by omega) (by simp; have := bel3.size; omega)
      have hcg : Chg (fun k => u3.ownBlock = some k) w3 w6 := (Chg.of_below _ hbb).same (.of_grown g6 fun k e => e)
      have HRA := Lib.hid hra
      have HRE := Lib.hid (show (Instr.entry (.pointer (some ⟨it, 0, none⟩))).run Try.prog w3 = .ok (.tuple #[.int .i64 pk, pv]) w3 from hre)
      have HRN := Lib.hid (show (Instr.next (.pointer (some ⟨it, 0, none⟩)) false 0).run Try.prog w2 = .ok (.tuple #[.bool true, .int .i64 pk, pv]) w3 from hrn)
      have hit3 := hmi.lt.2
      have HI := Lib.hid (show QG w w6 M it L K v2 (C ++ [pk]) (todo.eraseIdx j) from ⟨hmi.chg hcg (fun e => by have := (hol M e).1; have := HN.out; omega) (fun e => hoff e), o6, hpm, bel3.trans (hcg.below bel3.size fun k e => (hol k e).1), HG.out.it0, by
        rcases b6 with e | e
        · rw [e]; exact hoff
        · rw [e]; intro h; injection h with h; simp at h; omega⟩)
      have hjl : j < todo.length := (List.getElem?_eq_some_iff.1 hj).1
      have hel : (todo.eraseIdx j).length + 1 = todo.length := by rw [List.length_eraseIdx, if_pos hjl]; omega
      have HLV := Lib.hid (show lenV v2 = (C ++ [pk]).length by
        rcases o6.2 with ⟨rfl, h0⟩ | ⟨g', cap', cur', rfl, _⟩
        · simp at h0
        · rfl)
      clear hra hre hrn o6 g6 b6 hmi hch hcg hbb own3 hpm hj
      have hre := HRE.out; have hrn := HRN.out
      go_wp2_with (at_builtin; refine wpList_app_run rfl _ _ _ rfl rfl rfl HRA.out ?_)
      go_roundw
      case rel => exact ⟨C ++ [pk], todo.eraseIdx j, HLV.out, by rw [List.length_append, List.length_singleton]; omega, HI⟩
      case measure =>
        have h1 := HLV.out
        rw [List.length_append, List.length_singleton] at h1
        show K.length - lenV v2 < K.length - lenV u3
        omega
set_option maxRecDepth 100000 in
set_option maxHeartbeats 1000000 in
theorem sortedO (h : MapK K64 w M L) {K : List Int} (hK : (L.map (·.1)).Perm K) (hS : K.Pairwise (· < ·)) (hl : K.length < 1000000) : Calls Try.prog 92 #[.map (some M)] w fun e w' => ∃ u, e = .returned u ∧ RS 1 ienc w' u K ∧ (∀ b, u.ownBlock = some b → w.heap.size ≤ b ∧ b < w'.heap.size) ∧ Below w.heap.size w w' := by
  have HSK := Lib.hid hS
  have hLS : L.length = K.length := by have := hK.length_eq; simpa using this
  have HLS := Lib.hid hLS
  have hlen := h.len Try.underlying80 3
  rw [hLS] at hlen
  obtain ⟨i0, hi, hz0, hz1, hz2⟩ := info_parts infoI64
  obtain ⟨w1, hmk, hown, hgr⟩ := run_makeSlice_owned (P := Try.prog) (w := w) w.heap.size 73 2 i0 _ 1 Try.underlying73 hi hz0 hz1 .i64 .i64 K.length (by omega) (by rw [hz2]; omega) (by unfold maxLen; omega) (Nat.le_refl _)
  have hb1 : Below w.heap.size w w1 := (Chg.of_grown (F := fun _ => False) hgr fun b e => by cases e).below (Nat.le_refl _) fun k e => e.elim
  have hs1 : w.heap.size < w1.heap.size := by
    rcases hown.2 with ⟨e, _⟩ | ⟨b, cap, cur, e, _, hg, _⟩
    · cases e
    · cases e; exact (Array.getElem?_eq_some_iff.1 hg).1
  have hM1 := h.below hb1 h.lt
  obtain ⟨o, hrun, hmi⟩ := hM1.range Try.underlying80
  obtain ⟨it, hit⟩ : ∃ it, it = w1.heap.size := ⟨_, rfl⟩
  rw [← hit] at hrun hmi
  have HI := Lib.hid (show QG w (w1.alloc o) M it L K (.slice (some ⟨w.heap.size, 0, none⟩) 0 K.length) [] L from ⟨hmi, (show OwnL 2 1 ienc w1 w.heap.size _ [] from hown).below (ba (Below.refl _ _) _), by simpa using hK, hb1.trans ((ba (Below.refl _ _) _).mono (by omega)), by omega, by simp [Value.ownBlock]; omega⟩)
  have HN := Lib.hid (show M < w.heap.size from h.lt)
  have HIT := Lib.hid hit
  clear hmi h hown hgr hb1 hK hit hM1 hi hz0 hz1 hz2 i0
  go_enter Try.func92, Try.ntmps92
  go_wp2
  clear hlen hmk hLS hS hrun hs1
  go_loopw [3] (fun lv wr => ∃ (C : List Int) (todo : List (Int × Value)), lenV lv = C.length ∧ C.length + todo.length = K.length ∧ Hid (QG w wr M it L K lv C todo)) (fun lv _ => K.length - lenV lv)
  case atStart => exact ⟨[], L, rfl, by have := HLS.out; simpa using this, HI⟩
  case round =>
    clear HI
    obtain ⟨C, todo, hlv, hlen, HG⟩ := hrel
    obtain ⟨w2, rfl⟩ : ∃ w2, w2 = wr := ⟨_, rfl⟩
    rcases HG.out.mi.next 0 with ⟨htd, hrn⟩ | ⟨p, j, w3, hj, _, hrn, hre, hmi, hch⟩
    · have hp := HG.out.perm
      rw [htd, List.map_nil, List.append_nil] at hp
      have HSRT := Lib.hid (isort HG.out.own hp HSK.out (by have := hp.length_eq; omega))
      have HOW := Lib.hid HG.out.own.lt
      have HBB := Lib.hid HG.out.bel
      clear hp htd
      go_wp2_with fail
      refine HSRT.out.mono ?_
      rintro e w4 ⟨rfl, hrs, hc⟩
      have HRS := Lib.hid hrs
      have HC := Lib.hid hc
      clear hrs hc hrn
      go_wp2
      go_ret
      exact ⟨u3, rfl, HRS.out, fun b hb => ⟨(HOW.out b hb).1, Nat.lt_of_lt_of_le (HOW.out b hb).2 HC.out.size⟩, ((Chg.of_below _ HBB.out).same HC.out).below (Nat.le_refl _) fun k hk => (HOW.out k hk).1⟩
    · have hol := HG.out.own.lt
      have hoff := HG.out.off
      have hpm : ((C ++ [p.1]) ++ (todo.eraseIdx j).map (·.1)).Perm K := by
        refine List.Perm.trans ?_ HG.out.perm
        rw [List.append_assoc]
        refine List.Perm.append_left _ ?_
        rw [← List.map_singleton (f := fun q : Int × Value => q.1), ← List.map_append]
        exact (erase_perm hj).map _
      obtain ⟨pk, pv⟩ := p
      have own3 : OwnL 2 1 ienc w3 w.heap.size u3 C := HG.out.own.chg hch fun b hb e => hoff (by rw [hb, e])
      have bel3 : Below w.heap.size w w3 := HG.out.bel.trans (hch.below HG.out.bel.size fun k e => by rw [e]; exact HG.out.it0)
      have hbb : Below w3.heap.size w3 (w3.alloc (.cells #[.int .i64 pk] 2)) := ba (Below.refl _ _) _
      obtain ⟨v2, w6, hra, o6, g6, b6⟩ := iapp (b := w3.heap.size) (own3.below hbb) pk (by simp) (by omega) (by simp; have := bel3.size; omega)
      have hcg : Chg (fun k => u3.ownBlock = some k) w3 w6 := (Chg.of_below _ hbb).same (.of_grown g6 fun k e => e)
      have HRA := Lib.hid hra
      have HRE := Lib.hid (show (Instr.entry (.pointer (some ⟨it, 0, none⟩))).run Try.prog w3 = .ok (.tuple #[.int .i64 pk, pv]) w3 from hre)
      have HRN := Lib.hid (show (Instr.next (.pointer (some ⟨it, 0, none⟩)) false 0).run Try.prog w2 = .ok (.tuple #[.bool true, .int .i64 pk, pv]) w3 from hrn)
      have hit3 := hmi.lt.2
      have HI := Lib.hid (show QG w w6 M it L K v2 (C ++ [pk]) (todo.eraseIdx j) from ⟨hmi.chg hcg (fun e => by have := (hol M e).1; have := HN.out; omega) (fun e => hoff e), o6, hpm, bel3.trans (hcg.below bel3.size fun k e => (hol k e).1), HG.out.it0, by
        rcases b6 with e | e
        · rw [e]; exact hoff
        · rw [e]; intro h; injection h with h; simp at h; omega⟩)
      have hjl : j < todo.length := (List.getElem?_eq_some_iff.1 hj).1
      have hel : (todo.eraseIdx j).length + 1 = todo.length := by rw [List.length_eraseIdx, if_pos hjl]; omega
      have HLV := Lib.hid (show lenV v2 = (C ++ [pk]).length by
        rcases o6.2 with ⟨rfl, h0⟩ | ⟨g', cap', cur', rfl, _⟩
        · simp at h0
        · rfl)
      clear hra hre hrn o6 g6 b6 hmi hch hcg hbb own3 hpm hj
      have hre := HRE.out; have hrn := HRN.out
      go_wp2_with (at_builtin; refine wpList_app_run rfl _ _ _ rfl rfl rfl HRA.out ?_)
      go_roundw
      case rel => exact ⟨C ++ [pk], todo.eraseIdx j, HLV.out, by rw [List.length_append, List.length_singleton]; omega, HI⟩
      case measure =>
        have h1 := HLV.out
        rw [List.length_append, List.length_singleton] at h1
        show K.length - lenV v2 < K.length - lenV u3
        omega
set_option maxRecDepth 100000 in
set_option maxHeartbeats 1000000 in
theorem sortedN (w : World) : Calls Try.prog 93 #[.map none] w fun e w' => ∃ u, e = .returned u ∧ RS 1 ienc w' u ([] : List Int) ∧ (∀ b, u.ownBlock = some b → w.heap.size ≤ b ∧ b < w'.heap.size) ∧ Below w.heap.size w w' := by
  have hlen : ∀ ty, (Builtin.len_ #[158] ty #[.map none]).run Try.prog w = .ok (.int .i64 0) w := fun ty => by simp [Builtin.len_, run_underlying Try.underlying158, Result.andThen, goInt]
  obtain ⟨i0, hi, hz0, hz1, hz2⟩ := info_parts infoI64
  obtain ⟨w1, hmk, hown, hgr⟩ := run_makeSlice_owned (P := Try.prog) (w := w) w.heap.size 73 2 i0 _ 1 Try.underlying73 hi hz0 hz1 .i64 .i64 0 (by omega) (by rw [hz2]; omega) (by decide) (Nat.le_refl _)
  replace hmk : (Instr.makeSlice 73 (.int .i64 0) (.int .i64 0)).run Try.prog w = .ok (.slice (some ⟨w.heap.size, 0, none⟩) 0 0) w1 := hmk
  have hb1 : Below w.heap.size w w1 := (Chg.of_grown (F := fun _ => False) hgr fun b e => by cases e).below (Nat.le_refl _) fun k e => e.elim
  have hrun := run_range_nilMap (P := Try.prog) w1 158 _ _ Try.underlying158
  have hnx := fun ty => run_next_nilMap (P := Try.prog) w1 ty 0 0 #[]
  have HSRT := Lib.hid (isort (S := []) ((show OwnL 2 1 ienc w1 w.heap.size _ [] from hown).below (ba (Below.refl w1.heap.size w1) (.mapIter none 0 #[] 0))) (.refl _) List.Pairwise.nil (by decide))
  have HB1 := Lib.hid (show Below w.heap.size w (w1.alloc (.mapIter none 0 #[] 0)) from hb1.trans ((ba (Below.refl _ _) _).mono hb1.size))
  have HOW := Lib.hid hown.lt
  clear hgr hown hb1 hi hz0 hz1 hz2 i0
  go_enter Try.func93, Try.ntmps93
  go_wp2
  go_loopw [3] (fun kv wr => kv = .slice (some ⟨w.heap.size, 0, none⟩) 0 0 ∧ wr = w1.alloc (.mapIter none 0 #[] 0)) (fun _ _ => 0)
  case atStart => exact ⟨rfl, rfl⟩
  case round =>
    obtain ⟨rfl, rfl⟩ := hrel
    go_wp2_with fail
    refine HSRT.out.mono ?_
    rintro e w4 ⟨rfl, hrs, hc⟩
    have HRS := Lib.hid hrs
    have HC := Lib.hid hc
    clear hrs hc
    go_wp2
    go_ret
    exact ⟨_, rfl, HRS.out, fun b hb => ⟨(HOW.out b hb).1, by have := (HOW.out b hb).2; have := HC.out.size; simp at this; omega⟩, ((Chg.of_below _ HB1.out).same HC.out).below (Nat.le_refl _) fun k hk => (HOW.out k hk).1⟩
end
end Go.Proofs.Ytnckjacbkhoppaa
