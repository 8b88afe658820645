/- frames: All: the table's frameworks in order. -/
import Derived.Test.YtajcelmnblncaaaFr6
import Derived.Test.YtajcelmnblncaaaSortG
import Derived.Test.YtajcelmnblncaaaMapI
import Derived.Test.YtajcelmnblncaaaLib
namespace Go.Proofs.Ytajcelmnblncaaa
open Go.RowKit Go.Maps
attribute [local go_sem] ext_cell ext_frozen extC_cell extC_frozen Mix.calmUpon Mix.mUpon eqFr
open Go.Sort Go.Shelf in
/-- The order by numbers, as a comparison. -/
theorem ltId (x y : Fr) : ltOf (fun x y : Fr => Go.Lib.compareInt x.id y.id) x y = ltF x y := by
  unfold ltOf Go.Lib.compareInt ltF
  by_cases h1 : x.id < y.id
  · simp [h1]
  · by_cases h2 : y.id < x.id <;> simp [h1, h2]
open Go.Sort Go.Shelf in
theorem swoId : SWO (ltOf fun x y : Fr => Go.Lib.compareInt x.id y.id) where
  irrefl x := by rw [ltId]; simp [ltF]
  trans x y z h1 h2 := by rw [ltId] at *; simp only [ltF, decide_eq_true_eq] at *; omega
  ntrans x y z h1 h2 := by rw [ltId] at *; simp only [ltF, decide_eq_false_iff_not] at *; omega
instance : Inhabited Fr := ⟨fzero⟩
open Go.Sort Go.Shelf in
set_option maxHeartbeats 1000000 in
theorem fcmp (x y : Fr) (W : World) : Calls Try.prog 105 #[fval x, fval y] W fun e w' => e = .returned (.int .i64 (Go.Lib.compareInt x.id y.id)) ∧ ∃ q os', w' = grow (W.drewN q) os' := by
  have hcon := fun W' => Go.Proofs.AnyG.cmp_Compare_int Lb.Try.cmp_Compare_int64 x.id y.id W'
  change ∀ W', Calls Try.prog 106 _ _ _ at hcon
  generalize Go.Lib.compareInt x.id y.id = r at hcon ⊢
  go_enter Try.func105, Try.ntmps105
  go_wp2_with (go_at_call 106; refine (hcon _).mono ?_; rintro e w' ⟨rfl, rfl⟩)
  go_ret
  exact ⟨rfl, 0, _, by rw [alloc_eq_grow, alloc_eq_grow, grow_grow]; rfl⟩
open Go.Sort Go.Shelf in
set_option maxHeartbeats 1000000 in
/-- slices.SortFunc by rising numbers. -/
theorem fsort {w : World} {base : Nat} {v : Value} {l S : List Fr} (h : OwnL 114 7 fenc w base v l) (hS : SF S) (hp : l.Perm S) (hln : l.length < 1000000) : Calls Try.prog 104 #[v, .func (.func 105) #[] #[]] w fun e w' => e = .returned (.tuple #[]) ∧ RS 7 fenc w' v S ∧ Chg (fun b => v.ownBlock = some b) w w' := by
  by_cases hl : l = []
  · subst hl
    obtain rfl : S = [] := by simpa using hp.symm
    obtain ⟨p, cap, rfl⟩ : ∃ p cap, v = .slice p 0 cap := by
      rcases h.2 with ⟨rfl, _⟩ | ⟨g, cap, cur, rfl, _⟩
      · exact ⟨_, _, rfl⟩
      · exact ⟨_, _, rfl⟩
    have hcon := AnyF.slices_SortFunc_none Lb.Try.sortF p cap (.func (.func 105) #[] #[]) w
    change Calls Try.prog 104 _ _ _ at hcon
    refine hcon.mono ?_
    rintro e w' ⟨rfl, rfl⟩
    exact ⟨rfl, h.rs (fun _ => rfl), Chg.refl _ _⟩
  · obtain ⟨blk, cap, rfl, h1, h2, _, hb, hH⟩ := own_holds h (fun _ => rfl) hl
    have eg : ∀ args w, (callFunc 105 args).run Try.prog w = .ok (.enter 105 args) w := enters_of Try.func105 (by kernel_rfl) rfl
    have hcmp : CmpLays Try.prog 105 #[] fenc 7 (fun x y => Go.Lib.compareInt x.id y.id) blk 0 l.toArray.size w := fun _ _ _ _ x y => fcmp x y _
    have hm : l.length < 4611686018427387904 := by omega
    have hcon := AnyQ.slices_SortFunc Lb.Try.sortF 7 Try.isAgg114 Try.sizeOf114 fenc (fun _ => rfl) (fun x u hu => by simp [fenc] at hu; rcases hu with rfl | rfl | rfl | rfl | rfl | rfl | rfl <;> rfl) (fun x y => Go.Lib.compareInt x.id y.id) swoId 105 #[] blk 0 cap l.toArray w eg hcmp hH hb (by simpa using hm)
    change Calls Try.prog 104 _ _ _ at hcon
    refine hcon.mono ?_
    rintro e w' ⟨rfl, d', n, os, hpm, hso, rfl⟩
    have hso' : SortedIn ltF 0 l.toArray.size d' := by
      have := hso
      unfold SortedIn at this ⊢
      simpa only [ltId] using this
    have hd := sorted_srt ordF hS hp hpm hso'
    have hsz : d'.size = l.toArray.size := hpm.1
    have hr := holds_rs (cap := cap) (holdsK_sortWorldK_c fenc 7 w blk 0 l.toArray d' n os hH hb hsz) (fun _ => rfl) (by rw [hsz]; simpa using h1) h2 (Nat.lt_of_lt_of_le hb (chg_sortWorldK blk 0 n d' os).size)
    rw [hd, hsz] at hr
    exact ⟨rfl, hr, (chg_sortWorldK blk 0 n d' os).mono fun k e => by rw [e]; rfl⟩
theorem infoFr : (Try.prog.info? 114).map (fun i => (i.zero, i.size, i.bytes)) = some (some (fval fzero), 7, 48) := by kernel_rfl
theorem own_app {w : World} {base : Nat} {v : Value} {l : List Fr} {b : Nat} (h : OwnL 114 7 fenc w base v l) (x : Fr) (hx : FB w b x) (hl : l.length < 1000000) (hb : base ≤ w.heap.size) :
    ∃ v' w', (Builtin.append_ #[104, 104] 104 #[v, .slice (some ⟨b, 0, none⟩) 1 1]).run Try.prog w = .ok v' w' ∧ OwnL 114 7 fenc w' base v' (l ++ [x]) ∧ w.grownBy w' v.ownBlock ∧ (v'.ownBlock = v.ownBlock ∨ v'.ownBlock = some w.heap.size) := by
  obtain ⟨i0, hi, hz0, hz1, hz2⟩ := info_parts infoFr
  obtain ⟨x0, x1, x2, x3, x4, x5, x6⟩ := hx.cells
  exact OwnL.app h Try.underlying104 hi hz0 hz1 hz2 rfl (by decide) (fun _ => rfl) x (fun j u hj => by
      rcases j with _ | _ | _ | _ | _ | _ | _ | j <;> simp [fenc] at hj
      · subst hj; exact x0
      · subst hj; exact x1
      · subst hj; exact x2
      · subst hj; exact x3
      · subst hj; exact x4
      · subst hj; exact x5
      · subst hj; exact x6) (fun u hu => by simp [fenc] at hu; rcases hu with rfl | rfl | rfl | rfl | rfl | rfl | rfl <;> rfl) (by omega) (by unfold maxLen; omega) hb
def lenV : Value → Nat
  | .slice _ n _ => n
  | _ => 0
def entF (f : Fr) : Int × Value := (f.id, fval f)
theorem fval_inj {a b : Fr} (h : fval a = fval b) : a = b := by
  cases a; cases b; simp at h; obtain ⟨h0, h1, h2, h3, h4, h5, h6⟩ := h; subst h0 h1 h2 h3 h4 h5 h6; rfl
/-- The map's entries are the frameworks, in whatever order. -/
theorem TB.perm {w : World} {tp M : Nat} {cap : Int} {S : List Fr} {g : Nat → It} {L : List (Int × Value)} (h : TB w tp M cap S g L) : L.Perm (S.map entF) := by
  have hn := h.map.nodup
  have hS : ((S.map entF).map (·.1)).Nodup := by
    rw [List.map_map]
    exact List.pairwise_map.2 (h.ro.sf.imp fun e => e.2)
  refine (List.perm_ext_iff_of_nodup ((List.pairwise_map.1 hn).imp fun h e => h (by rw [e])) ((List.pairwise_map.1 hS).imp fun h e => h (by rw [e]))).2 fun p => ?_
  obtain ⟨k, v⟩ := p
  constructor
  · intro hp
    have := look_of_mem hn hp
    rw [h.look] at this
    cases hf : fndF S k with
    | none => rw [hf] at this; cases this
    | some f =>
      rw [hf] at this
      obtain ⟨a, b⟩ := Srt.fnd_mem hf
      refine List.mem_map.2 ⟨f, a, ?_⟩
      simp at this
      exact Prod.ext b this
  · intro hp
    obtain ⟨f, hf, he⟩ := List.mem_map.1 hp
    have := h.ro.sf.fnd hf
    have h2 := h.look f.id
    rw [show fndF S f.id = some f from this] at h2
    have := look_mem h2
    rw [← he]; exact this
/-- Where ranging over the table stands. -/
structure RG (W wr : World) (M it : Nat) (L : List (Int × Value)) (S : List Fr) (v : Value) (C : List Fr) (todo : List (Int × Value)) : Prop where
  mi : MapI K64 wr M it L todo
  own : OwnL 114 7 fenc wr W.heap.size v C
  perm : (C.map entF ++ todo).Perm (S.map entF)
  bel : Below W.heap.size W wr
  it0 : W.heap.size ≤ it
  off : v.ownBlock ≠ some it
theorem erase_perm {α : Type} : ∀ {l : List α} {j : Nat} {x : α}, l[j]? = some x → (x :: l.eraseIdx j).Perm l
  | [], j, x, h => by simp at h
  | a :: t, 0, x, h => by
    simp at h; subst h; exact .refl _
  | a :: t, j + 1, x, h => by
    rw [List.eraseIdx_cons_succ]
    exact (List.Perm.swap a x _).trans ((erase_perm (by simpa using h)).cons a)
theorem perm_step {C S : List Fr} {todo : List (Int × Value)} {j : Nat} {p : Int × Value} (h : (C.map entF ++ todo).Perm (S.map entF)) (hj : todo[j]? = some p) : ∃ f, p = entF f ∧ f ∈ S ∧ ((C ++ [f]).map entF ++ todo.eraseIdx j).Perm (S.map entF) := by
  have hp : p ∈ S.map entF := h.subset (List.mem_append_right _ (List.mem_of_getElem? hj))
  obtain ⟨f, hf, rfl⟩ := List.mem_map.1 hp
  refine ⟨f, rfl, hf, ?_⟩
  refine List.Perm.trans ?_ h
  rw [List.map_append, List.append_assoc]
  refine List.Perm.append_left _ ?_
  exact erase_perm hj
theorem ent_eq {a b : Fr} (h : entF a = entF b) : a = b := fval_inj (by injection h)
theorem entF_inj {C S : List Fr} (hS : SF S) (h : (C.map entF).Perm (S.map entF)) : C.Perm S := by
  have hnS : (S.map entF).Nodup := List.pairwise_map.2 (hS.imp fun e h => e.2 (by injection h))
  have hnC := h.nodup_iff.2 hnS
  refine (List.perm_ext_iff_of_nodup ((List.pairwise_map.1 hnC).imp fun h e => h (by rw [e])) ((List.pairwise_map.1 hnS).imp fun h e => h (by rw [e]))).2 fun p => ?_
  constructor
  · intro hp
    obtain ⟨q, hq, he⟩ := List.mem_map.1 (h.subset (List.mem_map.2 ⟨p, hp, rfl⟩))
    rw [← ent_eq he]; exact hq
  · intro hp
    obtain ⟨q, hq, he⟩ := List.mem_map.1 (h.symm.subset (List.mem_map.2 ⟨p, hp, rfl⟩))
    rw [← ent_eq he]; exact hq
section
variable {w : World} {tp M : Nat} {cap : Int} {S : List Fr}
/-- A list of frameworks that a call answers, in new memory. -/
def RetF (w : World) (S : List Fr) (e : Ending) (w' : World) : Prop := ∃ v, e = .returned v ∧ RS 7 fenc w' v S ∧ (∀ b, v.ownBlock = some b → w.heap.size ≤ b) ∧ Below w.heap.size w w'
set_option maxRecDepth 100000 in
set_option maxHeartbeats 1000000 in
theorem fall (h : TS w tp M cap S) : Calls Try.prog 66 #[ptr tp] w (RetF w S) := by
  have H := Lib.hid h
  clear h
  go_enter Try.func66, Try.ntmps66
  go_wp2_with fail
  refine (fmade H.out).mono ?_
  rintro e w1 ⟨rfl, hb1⟩
  obtain ⟨g, L, H1⟩ := H.out.below hb1
  have c1 := H1.c1
  have hl := H1.lt.1
  obtain ⟨o, hrun, hmi⟩ := H1.map.range Try.underlying124
  have hLS : L.length = S.length := H1.len
  have hbg := H1.big
  have HI := Lib.hid (show RG w (w1.alloc o) M w1.heap.size L S (.slice none 0 0) [] L from ⟨hmi, OwnL.nil _ _ _ _ _, H1.perm, ba hb1 _, hb1.size, by simp [Value.ownBlock]⟩)
  have HN := Lib.hid (show M ≠ w1.heap.size from fun e => by have := H1.lt.2; omega)
  clear hmi H1 hb1
  go_wp2
  generalize w1.heap.size = it at *
  go_loopw [3] (fun lv wr => ∃ (C : List Fr) (todo : List (Int × Value)), lenV lv = C.length ∧ C.length + todo.length = S.length ∧ Hid (RG w wr M it L S lv C todo)) (fun lv _ => S.length - lenV lv)
  case atStart => exact ⟨[], L, rfl, by simpa using hLS, HI⟩
  case round =>
    clear HI
    obtain ⟨C, todo, hlv, hlen, HQ⟩ := hrel
    obtain ⟨w2, rfl⟩ : ∃ w2, w2 = wr := ⟨_, rfl⟩
    have hM0 := Lib.hid (show M < w.heap.size from H.out.lt.2)
    rcases HQ.out.mi.next 0 with ⟨htd, hrn⟩ | ⟨p, j, w3, hj, _, hrn, hre, hmi, hch⟩
    · have hp := HQ.out.perm
      rw [htd, List.append_nil] at hp
      have hcs : C.Perm S := entF_inj H.out.sf hp
      have HSRT := Lib.hid (fsort HQ.out.own H.out.sf hcs (by have := hcs.length_eq; omega))
      have HOW := Lib.hid HQ.out.own.lt
      have HBB := Lib.hid HQ.out.bel
      clear hp htd hcs
      go_wp2_with fail
      refine HSRT.out.mono ?_
      rintro e w4 ⟨rfl, hrs, hc⟩
      have HRS := Lib.hid hrs
      have HC := Lib.hid hc
      clear hrs hc hrn
      go_wp2
      go_ret
      exact ⟨u3, rfl, HRS.out, fun b hb => (HOW.out b hb).1, ((Chg.of_below _ HBB.out).same HC.out).below (Nat.le_refl _) fun k hk => (HOW.out k hk).1⟩
    · obtain ⟨f, rfl, hfS, hpm⟩ := perm_step HQ.out.perm hj
      have hol := HQ.out.own.lt
      have hoff := HQ.out.off
      have own3 : OwnL 114 7 fenc w3 w.heap.size u3 C := HQ.out.own.chg hch fun b hb e => hoff (by rw [hb, e])
      have bel3 : Below w.heap.size w w3 := HQ.out.bel.trans (hch.below HQ.out.bel.size fun k e => by rw [e]; exact HQ.out.it0)
      have hit : it < w3.heap.size := hmi.lt.2
      have hFB1 := FB.made (w3.alloc (.cells #[.int .i64 f.id, .int .i64 f.role, .int .i64 f.weight, .bool f.up, .bool f.quiet, .int .i64 f.time, .int .i64 f.til] 114)) f
      rw [show (w3.alloc (.cells #[.int .i64 f.id, .int .i64 f.role, .int .i64 f.weight, .bool f.up, .bool f.quiet, .int .i64 f.time, .int .i64 f.til] 114)).heap.size = w3.heap.size + 1 by simp] at hFB1
      obtain ⟨v2, w6, hra, o6, g6, b6⟩ := own_app (b := w3.heap.size + 1) (w := (w3.alloc (.cells #[.int .i64 f.id, .int .i64 f.role, .int .i64 f.weight, .bool f.up, .bool f.quiet, .int .i64 f.time, .int .i64 f.til] 114)).alloc (.cells #[.int .i64 f.id, .int .i64 f.role, .int .i64 f.weight, .bool f.up, .bool f.quiet, .int .i64 f.time, .int .i64 f.til] 114)) (own3.below (ba (ba (Below.refl _ _) _) _)) f hFB1 (by omega) (by simp; have := bel3.size; omega)
      have hbb : Below w3.heap.size w3 ((w3.alloc (.cells #[.int .i64 f.id, .int .i64 f.role, .int .i64 f.weight, .bool f.up, .bool f.quiet, .int .i64 f.time, .int .i64 f.til] 114)).alloc (.cells #[.int .i64 f.id, .int .i64 f.role, .int .i64 f.weight, .bool f.up, .bool f.quiet, .int .i64 f.time, .int .i64 f.til] 114)) := ba (ba (Below.refl _ _) _) _
      have hcg : Chg (fun k => u3.ownBlock = some k) w3 w6 := (Chg.of_below _ hbb).same (.of_grown g6 fun k e => e)
      have HRA := Lib.hid hra
      have HRE := Lib.hid (show (Instr.entry (.pointer (some ⟨it, 0, none⟩))).run Try.prog w3 = .ok (.tuple #[.int .i64 f.id, .agg #[.int .i64 f.id, .int .i64 f.role, .int .i64 f.weight, .bool f.up, .bool f.quiet, .int .i64 f.time, .int .i64 f.til]]) w3 from hre)
      have HRN := Lib.hid (show (Instr.next (.pointer (some ⟨it, 0, none⟩)) false 0).run Try.prog w2 = .ok (.tuple #[.bool true, .int .i64 f.id, .agg #[.int .i64 f.id, .int .i64 f.role, .int .i64 f.weight, .bool f.up, .bool f.quiet, .int .i64 f.time, .int .i64 f.til]]) w3 from hrn)
      have HI := Lib.hid (show RG w w6 M it L S v2 (C ++ [f]) (todo.eraseIdx j) from ⟨hmi.chg hcg (fun e => by have := (hol M e).1; have := hM0.out; omega) (fun e => hoff e), o6, hpm, bel3.trans (hcg.below bel3.size fun k e => (hol k e).1), HQ.out.it0, by
        rcases b6 with e | e
        · rw [e]; exact hoff
        · rw [e]; intro h; injection h with h; simp at h; omega⟩)
      have hjl : j < todo.length := (List.getElem?_eq_some_iff.1 hj).1
      have hel : (todo.eraseIdx j).length + 1 = todo.length := by rw [List.length_eraseIdx, if_pos hjl]; omega
      have HLV := Lib.hid (show lenV v2 = (C ++ [f]).length by
        rcases o6.2 with ⟨rfl, h0⟩ | ⟨g', cap', cur', rfl, _⟩
        · simp at h0
        · rfl)
      clear hra hre hrn o6 g6 b6 hmi hch hcg hbb own3 hpm hj
      have hre := HRE.out; have hrn := HRN.out
      go_wp2_with (at_builtin; refine wpList_app_run rfl _ _ _ rfl rfl rfl HRA.out ?_)
      go_roundw
      case rel => exact ⟨C ++ [f], todo.eraseIdx j, HLV.out, by rw [List.length_append, List.length_singleton]; omega, HI⟩
      case measure =>
        have h1 := HLV.out
        rw [List.length_append, List.length_singleton] at h1
        show S.length - lenV v2 < S.length - lenV u3
        omega
end
end Go.Proofs.Ytajcelmnblncaaa
