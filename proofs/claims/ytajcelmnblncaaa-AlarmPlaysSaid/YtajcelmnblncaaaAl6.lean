/- alarm: New; alarms that nobody made; All. -/
import Derived.Test.YtajcelmnblncaaaAl5
namespace Go.Proofs.Ytajcelmnblncaaa
open Go.RowKit Go.Maps
attribute [local go_sem] ext_cell ext_frozen extC_cell extC_frozen Mix.calmUpon Mix.mUpon
theorem makeAn (w : World) : (Instr.makeMap 96 none).run Try.prog w = .ok (.map (some w.heap.size)) (w.alloc (.map #[] 0)) := by kernel_rfl
theorem makeAk (w : World) : (Instr.makeMap 97 none).run Try.prog w = .ok (.map (some w.heap.size)) (w.alloc (.map #[] 0)) := by kernel_rfl
set_option maxRecDepth 100000 in
set_option maxHeartbeats 1000000 in
theorem anew (w : World) : Calls Try.prog 43 #[] w fun e w' => ∃ ap G, e = .returned (ptr ap) ∧ AS w' ap G [] 0 ∧ Below w.heap.size w w' ∧ ∀ k, G k → w.heap.size ≤ k := by
  have hm1 := makeAn; have hm2 := makeAk
  go_enter Try.func43, Try.ntmps43
  go_wp2_with fail
  refine (hnew w).mono ?_
  rintro e w1 ⟨F1, rfl, h1, hb1, n1⟩
  have H1 := Lib.hid h1; have HB1 := Lib.hid hb1; have HN1 := Lib.hid n1
  clear h1 hb1 n1
  go_wp2
  go_ret
  have hs1 := HB1.out.size
  have e1 : (w1.alloc (.map #[] 0)).heap.size = w1.heap.size + 1 := by simp
  have e2 : ((w1.alloc (.map #[] 0)).alloc (.map #[] 0)).heap.size = w1.heap.size + 1 + 1 := by simp
  have m1 := (MapK.made (E := K3) w1)
  have m2 := (MapK.made (E := K64) (w1.alloc (.map #[] 0)))
  rw [e1] at m2
  have ob := heap_alloc_new ((w1.alloc (.map #[] 0)).alloc (.map #[] 0)) (.cells #[ptr (w.heap.size + 1), .map (some w1.heap.size), .map (some (w1.heap.size + 1)), .int .i64 0] 99)
  rw [e2] at ob
  have hF := H1.out.lt
  refine ⟨w1.heap.size + 1 + 1, _, rfl, ⟨w.heap.size + 1, w1.heap.size, w1.heap.size + 1, 0, [], [], F1, [], 0, ⟨ob, (m1.below (ba (ba (Below.refl _ _) _) _) (by simp)), m2.below (ba (Below.refl _ _) _) (by simp), (HL.below ⟨List.Pairwise.nil, H1.out⟩ (ba (ba (ba (Below.refl _ _) _) _) _)), fun _ => rfl, fun _ => rfl, fun _ => rfl, rfl, RI.nil, (by simp), (by omega), ?_⟩, rfl, ⟨by omega, by omega, by omega, by omega, by simp, by omega⟩⟩, ?_, ?_⟩
  · exact ⟨fun h => by have := hF _ h; omega, fun h => by have := hF _ h; omega, fun h => by have := hF _ h; omega⟩
  · exact ba (ba (ba HB1.out _) _) _
  · rintro k (rfl | rfl | rfl | hk)
    · omega
    · omega
    · omega
    · exact HN1.out k hk
/-- Nobody made these alarms. -/
def NM (w : World) (v : Value) : Prop := v = .pointer none ∨ ∃ b, v = ptr b ∧ w.cell? ⟨b, 0, none⟩ = some (.pointer none) ∧ b < w.heap.size
theorem NM.below {w w' : World} {v : Value} (h : NM w v) (hb : Below w.heap.size w w') : NM w' v := by
  rcases h with h | ⟨b, h1, h2, h3⟩
  · exact .inl h
  · exact .inr ⟨b, h1, (hb.cell (p := ⟨b, 0, none⟩) h3).trans h2, Nat.lt_of_lt_of_le h3 hb.size⟩
set_option maxRecDepth 100000 in
theorem amade_no {w : World} {v : Value} (h : NM w v) : Calls Try.prog 95 #[v] w fun e w' => e = .returned (.bool false) ∧ Below w.heap.size w w' := by
  rcases h with rfl | ⟨b, rfl, hc, hb⟩
  · go_enter Try.func95, Try.ntmps95
    go_wp2
    go_ret
    exact ⟨rfl, Below.refl _ _⟩
  · go_enter Try.func95, Try.ntmps95
    go_wp2
    go_ret
    exact ⟨rfl, Below.refl _ _⟩
set_option maxRecDepth 100000 in
theorem aset_no {w : World} {v : Value} (h : NM w v) (k : Ky) (at_ : Int) : Calls Try.prog 51 #[v, kval k, .int .i64 at_] w fun e w' => e = .returned (.bool false) ∧ Below w.heap.size w w' := by
  have H := Lib.hid h
  have HB0 := Lib.hid (show Below w.heap.size w (w.alloc (.cells #[.int .i64 k.1, .int .i64 k.2.1, .int .i64 k.2.2] 79)) from ba (Below.refl _ _) _)
  clear h
  go_enter Try.func51, Try.ntmps51
  go_wp2_with fail
  generalize w.alloc (.cells #[.int .i64 k.1, .int .i64 k.2.1, .int .i64 k.2.2] 79) = w1 at *
  refine (amade_no (H.out.below HB0.out)).mono ?_
  rintro e w2 ⟨rfl, hb2⟩
  have HB2 := Lib.hid (bt HB0.out hb2)
  clear hb2
  go_wp2
  go_ret
  exact ⟨rfl, HB2.out⟩
set_option maxRecDepth 100000 in
theorem aforget_no {w : World} {v : Value} (h : NM w v) (a b : Int) : Calls Try.prog 53 #[v, .int .i64 a, .int .i64 b] w fun e w' => e = .returned (.int .i64 0) ∧ Below w.heap.size w w' := by
  have H := Lib.hid h
  clear h
  go_enter Try.func53, Try.ntmps53
  go_wp2_with fail
  refine (amade_no H.out).mono ?_
  rintro e w2 ⟨rfl, hb2⟩
  have HB2 := Lib.hid hb2
  clear hb2
  go_wp2
  go_ret
  exact ⟨rfl, HB2.out⟩
set_option maxRecDepth 100000 in
theorem adue_no {w : World} {v : Value} (h : NM w v) (a : Int) : Calls Try.prog 52 #[v, .int .i64 a] w fun e w' => e = .returned (.slice none 0 0) ∧ Below w.heap.size w w' := by
  have H := Lib.hid h
  clear h
  go_enter Try.func52, Try.ntmps52
  go_wp2_with fail
  refine (amade_no H.out).mono ?_
  rintro e w2 ⟨rfl, hb2⟩
  have HB2 := Lib.hid hb2
  clear hb2
  go_wp2
  go_ret
  exact ⟨rfl, HB2.out⟩
def lenA : Value → Nat
  | .slice _ n _ => n
  | _ => 0
def entK (x : Rc) : Ky × Value := (x.key, .int .i64 x.num)
theorem eraseA {α : Type} : ∀ {l : List α} {j : Nat} {x : α}, l[j]? = some x → (x :: l.eraseIdx j).Perm l
  | [], j, x, h => by simp at h
  | a :: t, 0, x, h => by
    simp at h; subst h; exact .refl _
  | a :: t, j + 1, x, h => by
    rw [List.eraseIdx_cons_succ]
    exact (List.Perm.swap a x _).trans ((eraseA (by simpa using h)).cons a)
section
variable {w : World} {ap hp Mn Mk : Nat} {last : Int} {Ln : List (Ky × Value)} {Lk : List (Int × Value)} {F : Nat → Prop} {l : List It} {s : Int} {R : List Rc} {G : Nat → Prop} {c : Nat}
theorem RI.nodup (h : RI R) : (R.map entK).Nodup := List.pairwise_map.2 (h.srt.imp fun e h => e.2 (by injection h))
theorem entK_of (h : RI R) {x y : Rc} (hx : x ∈ R) (hy : y ∈ R) (e : entK x = entK y) : x = y := by
  have h1 := h.fkey hx
  have h2 := h.fkey hy
  have : x.key = y.key := by injection e
  rw [this, h2] at h1
  injection h1 with h1
  exact h1.symm
/-- The map's entries are the alarms, in whatever order. -/
theorem AO.perm (h : AO w ap hp Mn Mk last Ln Lk F l s R) : Ln.Perm (R.map entK) := by
  have hn := h.nm.nodup
  refine (List.perm_ext_iff_of_nodup ((List.pairwise_map.1 hn).imp fun h e => h (by rw [e])) h.ri.nodup).2 fun p => ?_
  obtain ⟨k, v⟩ := p
  constructor
  · intro hp
    have : lkK Ln k = some v := look_of_mem hn hp
    rw [h.ln] at this
    cases hf : fK R k with
    | none => rw [hf] at this; cases this
    | some x =>
      rw [hf] at this
      obtain ⟨a, b⟩ := Srt.fnd_mem hf
      refine List.mem_map.2 ⟨x, a, ?_⟩
      simp at this
      unfold entK
      rw [b, this]
  · intro hp
    obtain ⟨x, hx, he⟩ := List.mem_map.1 hp
    have h2 := h.ln x.key
    rw [h.ri.fkey hx] at h2
    have := look_mem (L := Ln) h2
    rw [← he]; exact this
/-- Where ranging over the numbers stands. -/
structure RG (W wr : World) (Mn it : Nat) (Ln : List (Ky × Value)) (R : List Rc) (v : Value) (C : List Rc) (todo : List (Ky × Value)) : Prop where
  mi : MapI K3 wr Mn it Ln todo
  own : OwnL 156 4 eenc wr W.heap.size v C
  perm : (C.map entK ++ todo).Perm (R.map entK)
  sub : ∀ x ∈ C, x ∈ R
  bel : Below W.heap.size W wr
  it0 : W.heap.size ≤ it
  off : v.ownBlock ≠ some it
theorem perm_stepA {C R : List Rc} {todo : List (Ky × Value)} {j : Nat} {p : Ky × Value} (h : (C.map entK ++ todo).Perm (R.map entK)) (hj : todo[j]? = some p) : ∃ f, p = entK f ∧ f ∈ R ∧ ((C ++ [f]).map entK ++ todo.eraseIdx j).Perm (R.map entK) := by
  have hp : p ∈ R.map entK := h.subset (List.mem_append_right _ (List.mem_of_getElem? hj))
  obtain ⟨f, hf, rfl⟩ := List.mem_map.1 hp
  refine ⟨f, rfl, hf, ?_⟩
  refine List.Perm.trans ?_ h
  rw [List.map_append, List.append_assoc]
  refine List.Perm.append_left _ ?_
  exact eraseA hj
theorem entK_perm {C R : List Rc} (hR : RI R) (hs : ∀ x ∈ C, x ∈ R) (h : (C.map entK).Perm (R.map entK)) : C.Perm R := by
  have hnS := hR.nodup
  have hnC := h.nodup_iff.2 hnS
  refine (List.perm_ext_iff_of_nodup ((List.pairwise_map.1 hnC).imp fun h e => h (by rw [e])) ((List.pairwise_map.1 hnS).imp fun h e => h (by rw [e]))).2 fun p => ?_
  constructor
  · exact hs p
  · intro hp
    obtain ⟨q, hq, he⟩ := List.mem_map.1 (h.symm.subset (List.mem_map.2 ⟨p, hp, rfl⟩))
    rw [← entK_of hR (hs q hq) hp he]; exact hq
set_option maxRecDepth 100000 in
set_option maxHeartbeats 2000000 in
theorem aall (h : AS w ap G R c) : Calls Try.prog 49 #[ptr ap] w (RetK (fun _ => False) w (R.map Rc.key)) := by
  have H := Lib.hid h
  clear h
  go_enter Try.func49, Try.ntmps49
  go_wp2_with fail
  refine (amade H.out).mono ?_
  rintro e w1 ⟨rfl, hb1⟩
  obtain ⟨hp, Mn, Mk, last, Ln, Lk, F, l, s, h0, hG, hbd⟩ := H.out
  have h1 := h0.below hb1
  have H0 := Lib.hid h0
  have H1 := Lib.hid h1
  have HD := Lib.hid hbd
  have HB1 := Lib.hid hb1
  have c1 := h1.c1
  have hl := h1.lt ap (.inl rfl)
  obtain ⟨o, hrun, hmi⟩ := h1.nm.range Try.underlying96
  have HLS := Lib.hid (show Ln.length = R.length by have := h1.perm.length_eq; simpa using this)
  have HI := Lib.hid (show RG w (w1.alloc o) Mn w1.heap.size Ln R (.slice none 0 0) [] Ln from ⟨hmi, OwnL.nil _ _ _ _ _, h1.perm, fun x hx => (by cases hx), ba hb1 _, hb1.size, by simp [Value.ownBlock]⟩)
  have HN := Lib.hid (show Mn ≠ w1.heap.size from fun e => by have := h1.nm.lt; omega)
  have HM0 := Lib.hid (show ∀ k, AG ap Mn Mk F k → k < w.heap.size from fun k hk => H.out.lt k (by rw [hG]; exact hk))
  clear hmi h1 h0 hb1 hbd hG
  go_wp2
  generalize w1.heap.size = it at *
  go_loopw [3] (fun lv wr => ∃ (C : List Rc) (todo : List (Ky × Value)), lenA lv = C.length ∧ C.length + todo.length = R.length ∧ Hid (RG w wr Mn it Ln R lv C todo)) (fun lv _ => R.length - lenA lv)
  case atStart => exact ⟨[], Ln, rfl, by simpa using HLS.out, HI⟩
  case round =>
    clear HI
    obtain ⟨C, todo, hlv, hlen, HQ⟩ := hrel
    obtain ⟨w2, rfl⟩ : ∃ w2, w2 = wr := ⟨_, rfl⟩
    rcases HQ.out.mi.next 0 with ⟨htd, hrn⟩ | ⟨p, j, w3, hj, _, hrn, hre, hmi, hch⟩
    · have hp := HQ.out.perm
      rw [htd, List.append_nil] at hp
      have hcs : C.Perm R := entK_perm H1.out.ri HQ.out.sub hp
      have HSRT := Lib.hid (einorder HQ.out.own H1.out.ri.srt hcs (by have := hcs.length_eq; have := HD.out.n1; have := HD.out.c1; omega))
      have HOW := Lib.hid HQ.out.own.lt
      have HBB := Lib.hid HQ.out.bel
      clear hp htd hcs
      go_wp2_with fail
      refine HSRT.out.mono ?_
      rintro e w4 ⟨v4, rfl, hrs, hnw, hc⟩
      have HRS := Lib.hid hrs
      have HC := Lib.hid hc
      have HNW := Lib.hid hnw
      clear hrs hc hrn hnw
      go_wp2
      go_ret
      exact ⟨v4, rfl, HRS.out, fun b hb => by have := HNW.out b hb; have := HBB.out.size; omega, .of_below _ (((Chg.of_below _ HBB.out).same HC.out).below (Nat.le_refl _) fun k hk => (HOW.out k hk).1)⟩
    · obtain ⟨f, rfl, hfS, hpm⟩ := perm_stepA HQ.out.perm hj
      have hol := HQ.out.own.lt
      have hoff := HQ.out.off
      have own3 : OwnL 156 4 eenc w3 w.heap.size u3 C := HQ.out.own.chg hch fun b hb e => hoff (by rw [hb, e])
      have bel3 : Below w.heap.size w w3 := HQ.out.bel.trans (hch.below HQ.out.bel.size fun k e => by rw [e]; exact HQ.out.it0)
      have hit : it < w3.heap.size := hmi.lt.2
      have H3 := Lib.hid (H0.out.below bel3)
      have HNJ := Lib.hid (num64 H3.out HD.out hfS)
      have HLO := Lib.hid (show Lof l f.num = some f.at_ by rw [H3.out.lo, H3.out.ri.fnum hfS]; rfl)
      have HRE := Lib.hid (show (Instr.entry (.pointer (some ⟨it, 0, none⟩))).run Try.prog w3 = .ok (.tuple #[.agg #[.int .i64 f.key.1, .int .i64 f.key.2.1, .int .i64 f.key.2.2], .int .i64 f.num]) w3 from hre)
      have HRN := Lib.hid (show (Instr.next (.pointer (some ⟨it, 0, none⟩)) false 0).run Try.prog w2 = .ok (.tuple #[.bool true, .agg #[.int .i64 f.key.1, .int .i64 f.key.2.1, .int .i64 f.key.2.2], .int .i64 f.num]) w3 from hrn)
      have HKA := Lib.hid (KB.made w3 f.key)
      have HBA := Lib.hid (show Below w3.heap.size w3 (w3.alloc (.cells #[.int .i64 f.key.1, .int .i64 f.key.2.1, .int .i64 f.key.2.2] 79)) from ba (Below.refl _ _) _)
      have HOL := Lib.hid hol; have HOF := Lib.hid hoff; have HO3 := Lib.hid own3; have HBL := Lib.hid bel3; have HPM := Lib.hid hpm; have HMI := Lib.hid hmi; have HFS := Lib.hid hfS
      have hjl : j < todo.length := (List.getElem?_eq_some_iff.1 hj).1
      have hel : (todo.eraseIdx j).length + 1 = todo.length := by rw [List.length_eraseIdx, if_pos hjl]; omega
      have c0 := H3.out.c0
      have hl3 := H3.out.lt ap (.inl rfl)
      clear hrn hre hmi hch hpm hj hol hoff own3 bel3 hfS c1 hl hrun
      have hre := HRE.out; have hrn := HRN.out
      go_wp2_with fail
      generalize w3.alloc (.cells #[.int .i64 f.key.1, .int .i64 f.key.2.1, .int .i64 f.key.2.2] 79) = w4 at *
      clear hre hrn c0
      refine (hat_any (H3.out.below HBA.out).hl f.num HNJ.out).mono ?_
      rintro e w5 ⟨rfl, hb5⟩
      rw [HLO.out]
      have HB5 := Lib.hid (bt HBA.out hb5)
      have HKA5 := Lib.hid (HKA.out.below hb5)
      have hEB := EB.made w5 f
      have hbb : Below w5.heap.size w5 (w5.alloc (.cells #[.int .i64 f.key.1, .int .i64 f.key.2.1, .int .i64 f.key.2.2, .int .i64 f.at_] 156)) := ba (Below.refl _ _) _
      have bel5 := bt HBL.out HB5.out
      obtain ⟨v2, w6, hra, o6, g6, b6⟩ := own_appE (b := w5.heap.size) ((HO3.out.below HB5.out).below hbb) f hEB (by have := HD.out.n1; have := HD.out.c1; omega) (by simp; have := bel5.size; omega)
      have hcg : Chg (fun k => u3.ownBlock = some k) w3 w6 := (Chg.of_below _ (bt HB5.out hbb)).same (.of_grown g6 fun k e => e)
      have HRA := Lib.hid hra
      have HI := Lib.hid (show RG w w6 Mn it Ln R v2 (C ++ [f]) (todo.eraseIdx j) from ⟨HMI.out.chg hcg (fun e => by have := (HOL.out Mn e).1; have := HM0.out Mn (.inr (.inl rfl)); omega) (fun e => HOF.out e), o6, HPM.out, fun x hx => by
        rcases List.mem_append.1 hx with h | h
        · exact HQ.out.sub x h
        · rw [List.mem_singleton.1 h]; exact HFS.out, HBL.out.trans (hcg.below HBL.out.size fun k e => (HOL.out k e).1), HQ.out.it0, by
        rcases b6 with e | e
        · rw [e]; exact HOF.out
        · rw [e]; intro h; injection h with h; have := HB5.out.size; simp at h; omega⟩)
      have HLV := Lib.hid (show lenA v2 = (C ++ [f]).length by
        rcases o6.2 with ⟨rfl, h0⟩ | ⟨g', cap', cur', rfl, _⟩
        · simp at h0
        · rfl)
      clear hra o6 g6 b6 hcg hbb hEB bel5
      generalize w3.heap.size = q at *
      clear hb5
      obtain ⟨x0, x1, x2⟩ := HKA5.out.cells
      have hq5 := HKA5.out.lt
      go_wp2_with (at_builtin; refine wpList_app_run rfl _ _ _ rfl rfl rfl HRA.out ?_)
      go_roundw
      case rel => exact ⟨C ++ [f], todo.eraseIdx j, HLV.out, by rw [List.length_append, List.length_singleton]; omega, HI⟩
      case measure =>
        have h1 := HLV.out
        rw [List.length_append, List.length_singleton] at h1
        show R.length - lenA v2 < R.length - lenA u3
        omega
end
end Go.Proofs.Ytajcelmnblncaaa
