/- filters: what is unwanted is taken away. -/
import Derived.Test.YtennhfkhdfalfaaFi6
import Derived.Test.YtennhfkhdfalfaaFiA
import Derived.Test.YtennhfkhdfalfaaFic
import Derived.Test.YtennhfkhdfalfaaMapI
import Derived.Test.YtennhfkhdfalfaaMapN
import Derived.Deep.DeepCutAuto
namespace Go.Proofs.Ytennhfkhdfalfaa
open Go.RowKit Go.Maps
attribute [local go_sem] ext_cell ext_frozen extC_cell extC_frozen Mix.calmUpon Mix.mUpon
def entF (p : K2 × Fx) : K2 × Value := (p.1, fxval p.2)
/-- Those that stay, and those of the keys K. -/
def keepK (U : Pf → Bool) (K : List K2) (S : List Pf) : List Pf := S.filter fun f => decide (kx f ∈ K) || !U f
theorem keepK_nil (U : Pf → Bool) (S : List Pf) : keepK U [] S = S.filter fun f => !U f := by
  unfold keepK; refine List.filter_congr fun f _ => by simp
theorem keepK_cut (U : Pf → Bool) {K K' : List K2} {k : K2} (h : ∀ j, j ∈ K ↔ j = k ∨ j ∈ K') (hn : k ∉ K') (S : List Pf) : cutK U k (keepK U K S) = keepK U K' S := by
  unfold cutK keepK
  rw [List.filter_filter]
  refine List.filter_congr fun f _ => ?_
  have h1 := h (kx f)
  by_cases e : kx f = k
  · have h2 : kx f ∈ K := h1.2 (.inl e)
    have h3 : kx f ∉ K' := by rw [e]; exact hn
    cases hu : U f <;> simp [e, hn]
  · have h2 : kx f ∈ K ↔ kx f ∈ K' := by rw [h1]; simp [e]
    simp [e, h2]
section
variable {W w w' : World} {tp M it : Nat} {cap : Int} {F : K2 → Option Fx} {S : List Pf} {L : List (K2 × Value)} {R : List (K2 × Fx)}
theorem MapI.itobj {L todo : List (K2 × Value)} (h : MapI KP w M it L todo) : ∃ a b c d, w.heap[it]? = some (.mapIter a b c d) := by
  obtain ⟨es, c, _, _, _, _, _, _, _, h2, _⟩ := h
  exact ⟨_, _, _, _, h2⟩
/-- Where taking away stands: R is still to come. -/
structure RG (W w : World) (tp M it : Nat) (cap : Int) (F : K2 → Option Fx) (S : List Pf) (L : List (K2 × Value)) (R : List (K2 × Fx)) : Prop where
  ft : FT W w tp M cap F S
  mi : MapI KP w M it L (R.map entF)
  lk : ∀ x, L.lookup x = (F x).map fxval
  rf : ∀ p ∈ R, F p.1 = some p.2
  nd : (R.map (·.1)).Nodup
theorem RG.left (h : RG W w tp M it cap F S L R) : leftN w M it = R.length := by rw [h.mi.left, List.length_map]
/-- The range's own block does not belong to the table. -/
theorem FT.iter (h : FT W w tp M cap F S) {a b c d} (ho : w.heap[it]? = some (.mapIter a b c d)) (hc : Chg (fun k => k = it) w w') (hi : W.heap.size ≤ it) : FT W w' tp M cap F S := by
  obtain ⟨es, cc, hmo⟩ := MapF.obj h.map
  have h1 : tp ≠ it := fun e => by have := h.obj; rw [e, ho] at this; cases this
  have h2 : M ≠ it := fun e => by rw [e, ho] at hmo; cases hmo
  refine ⟨⟨(hc.block tp h.lt.1 h1).trans h.obj, h.map.chg hc h2, h.bel.trans (hc.below h.bel.size fun k e => by rw [e]; exact hi), h.new, h.ne, fun k x hx => ?_, h.one, h.pl, h.ok, h.cp, h.c1⟩, h.nem⟩
  have := (h.lst k x hx).off ho (fun _ _ e => by cases e) (fun _ _ e => by cases e) (fun _ _ e => by cases e)
  exact (h.lst k x hx).chg hc this.1 this.2.1 this.2.2
/-- The entries of a table's map. -/
theorem FT.ents (h : FT W w tp M cap F S) : ∃ (L : List (K2 × Value)) (R : List (K2 × Fx)), MapK KP w M L ∧ L = R.map entF ∧ (∀ x, L.lookup x = (F x).map fxval) ∧ (∀ p ∈ R, F p.1 = some p.2) ∧ (R.map (·.1)).Nodup ∧ ∀ j x, F j = some x → j ∈ R.map (·.1) := by
  obtain ⟨L, hm, hl⟩ := h.map
  have hnd := hm.nodup
  have hget : ∀ p ∈ L, ∃ x, F p.1 = some x ∧ p.2 = fxval x := fun p hp => by
    have h1 := look_of_mem hnd (x := p.1) (v := p.2) hp
    rw [hl] at h1
    cases hf : F p.1 with
    | none => rw [hf] at h1; cases h1
    | some x => rw [hf] at h1; exact ⟨x, rfl, (Option.some.inj h1).symm⟩
  let g : K2 → Fx := fun k => (F k).getD ⟨0, .slice none 0 0, []⟩
  have hL : L = (L.map fun p => (p.1, g p.1)).map entF := by
    rw [List.map_map]
    have : L.map id = L.map (entF ∘ fun p => (p.1, g p.1)) := List.map_congr_left fun p hp => by
      obtain ⟨x, h1, h2⟩ := hget p hp
      obtain ⟨a, b⟩ := p
      simp only at h1 h2
      show (a, b) = (a, fxval (g a))
      rw [h2]; show _ = (a, fxval ((F a).getD _)); rw [h1]; rfl
    simpa using this
  refine ⟨L, L.map fun p => (p.1, g p.1), hm, hL, hl, fun p hp => ?_, ?_, fun j x hx => ?_⟩
  · obtain ⟨p0, hp0, rfl⟩ := List.mem_map.1 hp
    obtain ⟨x, h1, h2⟩ := hget p0 hp0
    show F p0.1 = some ((F p0.1).getD _)
    rw [h1]; rfl
  · rw [List.map_map]; exact hnd
  · rw [List.map_map]
    have h1 := hl j
    rw [hx] at h1
    exact List.mem_map.2 ⟨_, look_mem h1, rfl⟩
theorem keepK_all (h : ∀ f ∈ S, kx f ∈ R.map (·.1)) (U : Pf → Bool) : keepK U (R.map (·.1)) S = S := by
  unfold keepK
  exact List.filter_eq_self.2 fun f hf => by simp only [decide_eq_true (h f hf), Bool.true_or]
theorem FT.keys (h : FT W w tp M cap F S) {f : Pf} (hf : f ∈ S) : ∃ x, F (kx f) = some x := by
  cases hF : F (kx f) with
  | some x => exact ⟨x, rfl⟩
  | none =>
    have h1 := fk_mem.2 hf
    rw [h.pl, hF] at h1
    cases h1
set_option maxRecDepth 100000 in
set_option maxHeartbeats 4000000 in
theorem fremoveB (h : FT W w tp M cap F S) (U : Pf → Bool) (g : Nat) (lb : Array Value) (eg : ∀ args w, (callFunc g args).run Try.prog w = .ok (.enter g args) w)
    (hp : ∀ (W' : World) (x : Fl), (∃ a m c, x.vv = .slice a m c) → Chg (TB tp M F) w W' → Calls Try.prog g (#[flval x] ++ lb) W' fun e w'' => e = .returned (.bool (U x.pl)) ∧ Below W'.heap.size W' w'') :
    Calls Try.prog 94 #[fptr tp, .func (.func g) #[] lb] w fun e w' => e = .returned (.int .i64 ((S.length : Int) - ((S.filter fun f => !U f).length : Int))) ∧ RP W w w' tp M cap F (S.filter fun f => !U f) := by
  obtain ⟨L0, R0, hmk, hLR, hlk, hrf, hnd, hall⟩ := h.ents
  obtain ⟨c0, c1, c2⟩ := h.cells
  have hl := h.lt.1
  obtain ⟨o, hrun, hmi⟩ := hmk.range Try.underlying90
  have HI := Lib.hid (show RG W (w.alloc o) tp M w.heap.size cap F (keepK U (R0.map (·.1)) S) L0 R0 from
    ⟨by rw [keepK_all fun f hf => by obtain ⟨x, hx⟩ := h.keys hf; exact hall _ _ hx]; exact h.below (ba (Below.refl _ _) _), by rw [← hLR]; exact hmi, hlk, hrf, hnd⟩)
  have HM := Lib.hid (fmade h.toFQ)
  have HB0 := Lib.hid (show Chg (TB tp M F) w (w.alloc o) from Chg.of_below _ (ba (Below.refl _ _) _))
  have HP := Lib.hid hp; have HEV := Lib.hid eg; have H := Lib.hid h
  have hcl := h.cp; have hc1 := h.c1
  have hsl : (S.length : Int) ≤ 9223372036854775807 := by omega
  clear h hmk hLR hlk hrf hnd hall hp eg hmi hcl hc1
  go_enter Try.func94, Try.ntmps94
  go_wp2_with fail
  refine HM.out.mono ?_
  rintro e w1 ⟨rfl, rfl⟩
  go_wp2
  obtain ⟨it, hit⟩ : ∃ it, it = w1.heap.size := ⟨_, rfl⟩
  rw [← hit] at HI
  rw [← hit]
  have HIT := Lib.hid hit
  clear hit hrun c0 c1 c2 hl
  go_loopw [6, 7] (fun _ _ wr => ∃ (F' : K2 → Option Fx) (L : List (K2 × Value)) (R : List (K2 × Fx)), Hid (RG W wr tp M it cap F' (keepK U (R.map (·.1)) S) L R) ∧ Hid (Chg (TB tp M F) w1 wr ∧ ∀ q, TB tp M F' q → TB tp M F q)) (fun _ _ wr => leftN wr M it)
  case atStart => exact ⟨F, L0, R0, HI, Lib.hid ⟨HB0.out, fun _ e => e⟩⟩
  case round =>
    clear HI HB0
    obtain ⟨F', L, R, HG, HC⟩ := hrel
    obtain ⟨w2, rfl⟩ : ∃ w2, w2 = wr := ⟨_, rfl⟩
    have hle0 : (S.filter fun f => !U f).length ≤ S.length := List.length_filter_le _ _
    rcases HG.out.mi.next 0 with ⟨htd, hrn⟩ | ⟨pe, j, w3, hj, _, hrn, hre, hmi, hch⟩
    · obtain rfl : R = [] := by simpa using htd
      have HFT := Lib.hid (show FT W w2 tp M cap F' (S.filter fun f => !U f) from by have := HG.out.ft; rw [List.map_nil, keepK_nil] at this; exact this)
      obtain ⟨c0, c1, c2⟩ := HFT.out.cells
      have cl := HFT.out.lt.1
      have hwr : IntKind.i64.wrap ((S.length : Int) - ((S.filter fun f => !U f).length : Int)) = (S.length : Int) - ((S.filter fun f => !U f).length : Int) := IntWalk.i64_in _ (by omega)
      clear htd
      go_wp2
      go_ret
      exact ⟨rfl, F', HFT.out, fun q e => .inl (HC.out.2 q e), HC.out.1⟩
    · obtain ⟨⟨k, x⟩, hR, hpe⟩ := map_at hj
      subst hpe
      replace hrn : (Instr.next (.pointer (some ⟨it, 0, none⟩)) false 0).run Try.prog w2 = .ok (.tuple #[.bool true, .agg #[.int .i64 k.a, .int .i64 k.b], .pointer (some ⟨x.b, 0, none⟩)]) w3 := hrn
      replace hre : (Instr.entry (.pointer (some ⟨it, 0, none⟩))).run Try.prog w3 = .ok (.tuple #[.agg #[.int .i64 k.a, .int .i64 k.b], .pointer (some ⟨x.b, 0, none⟩)]) w3 := hre
      have hF := HG.out.rf _ (mem_at hR)
      simp only at hF
      have hlen := HG.out.left
      obtain ⟨ia, ib, ic, id', hio⟩ := MapI.itobj HG.out.mi
      have hiW : W.heap.size ≤ it := by have := H.out.bel.size; have := HIT.out; omega
      have h3 := HG.out.ft.iter hio hch hiW
      have hki : I64 k.a ∧ I64 k.b := by
        obtain ⟨f, hf⟩ := List.exists_mem_of_ne_nil _ (h3.nem k x hF)
        have h5 := h3.toFQ.pl k
        rw [hF] at h5
        have h6 : f.pl ∈ fk (keepK U (R.map (·.1)) S) k := by rw [h5]; exact List.mem_map.2 ⟨f, hf, rfl⟩
        have h7 := (List.mem_filter.1 h6)
        have h8 := h3.ok _ h7.1
        have h9 : kx f.pl = k := of_decide_eq_true h7.2
        rw [← h9]
        exact ⟨h8.i1, h8.i2⟩
      have HR := Lib.hid hR; have HF := Lib.hid hF; have HLEN := Lib.hid hlen; have H3 := Lib.hid h3; have HKI := Lib.hid hki; have HMI := Lib.hid hmi
      have HC3 := Lib.hid (show Chg (TB tp M F) w1 w3 from HC.out.1.trans hch fun q e => .inr (by have e : q = it := e; have := HIT.out; omega))
      clear hR hF hlen h3 hki hmi hj hio hle0
      have hb4 := ba (Below.refl w3.heap.size w3) (.cells #[.int .i64 k.a, .int .i64 k.b] 109)
      have HK4 := Lib.hid (KB2.made w3 k.a k.b)
      have H4 := Lib.hid (H3.out.below hb4)
      have HMI4 := Lib.hid (HMI.out.below hb4)
      have HC4 := Lib.hid (HC3.out.then_below hb4)
      clear hb4 H3 HC3 HMI
      go_wp2_with fail
      clear hrn hre hch
      generalize w3.alloc (.cells #[.int .i64 k.a, .int .i64 k.b] 109) = w4 at *
      obtain ⟨kb, hkb⟩ : ∃ b, b = w3.heap.size := ⟨_, rfl⟩
      rw [← hkb] at HK4 ⊢
      clear hkb
      obtain ⟨S1, hS1⟩ : ∃ S1, S1 = keepK U (R.map (·.1)) S := ⟨_, rfl⟩
      rw [← hS1] at H4
      have HS1 := Lib.hid hS1
      clear hS1
      obtain ⟨xb, xv, xl⟩ := x
      have hx := H4.out.lst _ _ HF.out
      have hne := H4.out.nem _ _ HF.out
      simp only at hne
      obtain ⟨q, xc, hq⟩ : ∃ q c, xv = .slice (some ⟨q, 0, none⟩) xl.length c := by
        obtain ⟨_, ⟨e, e0⟩ | ⟨g, cap, cur, e, _⟩⟩ := hx.own
        · exact absurd (List.eq_nil_of_length_eq_zero e0) hne
        · exact ⟨g, cap, e⟩
      subst hq
      have hple := H4.out.pl k
      rw [HF.out] at hple
      have hple : fk S1 k = xl.map Fl.pl := hple
      have hxle : xl.length ≤ S1.length := by
        have h1 : (fk S1 k).length ≤ S1.length := List.length_filter_le _ _
        rw [hple, List.length_map] at h1; exact h1
      have hcp := H4.out.cp; have hc1 := H4.out.c1
      have HPL := Lib.hid hple
      have HNE := Lib.hid hne
      have HX := Lib.hid hx
      have hwr1 : IntKind.i64.wrap ((S1.length : Int) - (xl.length : Int)) = (S1.length : Int) - (xl.length : Int) := IntWalk.i64_in _ (by omega)
      have l0 := hx.lb.cell
      have ll := hx.lb.lt
      simp only at l0 ll
      obtain ⟨c0, c1, c2⟩ := H4.out.cells
      have cl := H4.out.lt.1
      clear hx hple hne
      refine Mix.regionL (fun _ => False) (by kernel_rfl) ?_
      intro w20 hb20
      refine Mix.take_exL _ _ 0 rfl (by kernel_rfl) (by kernel_rfl) (by kernel_rfl) (by kernel_rfl) (by kernel_rfl) (by kernel_rfl) (fun K hK => ?_)
      go_simp
      first | (refine hK _ ?_; clear hK K) | (apply Exists.intro; refine ⟨fun x => ?_, hK _ ?_⟩; (fail); clear hK K)
      refine Mix.take_exL _ _ 1 rfl (by kernel_rfl) (by kernel_rfl) (by kernel_rfl) (by kernel_rfl) (by kernel_rfl) (by kernel_rfl) (fun K hK => ?_)
      go_simp
      first | (refine hK _ ?_; clear hK K) | (apply Exists.intro; refine ⟨fun x => ?_, hK _ ?_⟩; (fail); clear hK K)
      refine Mix.take_exL _ _ 2 rfl (by kernel_rfl) (by kernel_rfl) (by kernel_rfl) (by kernel_rfl) (by kernel_rfl) (by kernel_rfl) (fun K hK => ?_)
      go_simp
      first | (refine hK _ ?_; clear hK K) | (apply Exists.intro; refine ⟨fun x => ?_, hK _ ?_⟩; (fail); clear hK K)
      refine Mix.take_exL _ _ 3 rfl (by kernel_rfl) (by kernel_rfl) (by kernel_rfl) (by kernel_rfl) (by kernel_rfl) (by kernel_rfl) (fun K hK => ?_)
      go_simp
      first | (refine hK _ ?_; clear hK K) | (apply Exists.intro; refine ⟨fun x => ?_, hK _ ?_⟩; (fail); clear hK K)
      refine Mix.take_exL _ _ 4 rfl (by kernel_rfl) (by kernel_rfl) (by kernel_rfl) (by kernel_rfl) (by kernel_rfl) (by kernel_rfl) (fun K hK => ?_)
      go_simp
      first | (refine hK _ ?_; clear hK K) | (apply Exists.intro; refine ⟨fun x => ?_, hK _ ?_⟩; (fail); clear hK K)
      refine Mix.take_exL _ _ 5 rfl (by kernel_rfl) (by kernel_rfl) (by kernel_rfl) (by kernel_rfl) (by kernel_rfl) (by kernel_rfl) (fun K hK => ?_)
      go_simp
      first | (refine hK _ ?_; clear hK K) | (apply Exists.intro; refine ⟨fun x => ?_, hK _ ?_⟩; (fail); clear hK K)
      refine Mix.take_exL _ _ 6 rfl (by kernel_rfl) (by kernel_rfl) (by kernel_rfl) (by kernel_rfl) (by kernel_rfl) (by kernel_rfl) (fun K hK => ?_)
      go_simp
      first | (refine hK _ ?_; clear hK K) | (apply Exists.intro; refine ⟨fun x => ?_, hK _ ?_⟩; (fail); clear hK K)
      refine Mix.take_exL _ _ 7 rfl (by kernel_rfl) (by kernel_rfl) (by kernel_rfl) (by kernel_rfl) (by kernel_rfl) (by kernel_rfl) (fun K hK => ?_)
      go_simp
      first | (refine hK _ ?_; clear hK K) | (apply Exists.intro; refine ⟨fun x => ?_, hK _ ?_⟩; (fail); clear hK K)
      refine Mix.take_exL _ _ 8 rfl (by kernel_rfl) (by kernel_rfl) (by kernel_rfl) (by kernel_rfl) (by kernel_rfl) (by kernel_rfl) (fun K hK => ?_)
      go_simp
      first | (refine hK _ ?_; clear hK K) | (apply Exists.intro; refine ⟨fun x => ?_, hK _ ?_⟩; (fail); clear hK K)
      refine Mix.take_exL _ _ 9 rfl (by kernel_rfl) (by kernel_rfl) (by kernel_rfl) (by kernel_rfl) (by kernel_rfl) (by kernel_rfl) (fun K hK => ?_)
      go_simp
      first | (refine hK _ ?_; clear hK K) | (apply Exists.intro; refine ⟨fun x => ?_, hK _ ?_⟩; (fail); clear hK K)
      refine Mix.allL (rs := [10]) (by kernel_rfl) (by simp) (.of_below _ hb20) (by kernel_rfl) ?_
      intro i21 hi21 w21 hb21 hC21
      simp only [List.mem_cons, List.not_mem_nil, or_false] at hi21
      subst hi21
      have HB21 := Lib.hid (bt hb20 hb21)
      clear hC21 hb20 hb21
      refine Mix.op rfl (by kernel_rfl) ?_
      go_simp
      refine Mix.take_exL _ _ 11 rfl (by kernel_rfl) (by kernel_rfl) (by kernel_rfl) (by kernel_rfl) (by kernel_rfl) (by kernel_rfl) (fun K hK => ?_)
      go_simp
      first | (refine hK _ ?_; clear hK K) | (apply Exists.intro; refine ⟨fun x => ?_, hK _ ?_⟩; (fail); clear hK K)
      refine Mix.allL (rs := [12]) (by kernel_rfl) (by simp) (.of_below _ HB21.out) (by kernel_rfl) ?_
      intro i22 hi22 w22 hb22 hC22
      simp only [List.mem_cons, List.not_mem_nil, or_false] at hi22
      subst hi22
      have HB22 := Lib.hid (bt HB21.out hb22)
      clear hC22 hb22 c0 c1 c2 cl l0 ll
      have cf := (H4.out.below HB22.out).fz 1
      have cl := (H4.out.below HB22.out).lt.1
      obtain ⟨c0, c1, c2⟩ := (H4.out.below HB22.out).cells
      refine Mix.op rfl (by kernel_rfl) ?_
      go_simp
      refine Mix.doneL (by kernel_rfl) (by kernel_rfl) ?_
      intro w23 hb23
      have HC23 := Lib.hid (((Chg.of_below (fun b => b = tp) HB22.out).setCell (p := ⟨tp, 1, none⟩) (.inl rfl) (.int .i64 ((S1.length : Int) - (xl.length : Int)))).then_below hb23)
      have ho23 : w23.heap[tp]? = some (.cells #[.int .i64 cap, .int .i64 ((S1.length : Int) - (xl.length : Int)), .map (some M)] 92 (0, 0)) := by
        have h1 := heap_setCell_at (b := tp) (o := 1) (.int .i64 ((S1.length : Int) - (xl.length : Int))) (H4.out.below HB22.out).obj
        exact (hb23.block tp (Array.getElem?_eq_some_iff.1 h1).1).trans h1
      have HO23 := Lib.hid ho23
      clear hb23 cf cl c0 c1 c2 ho23 hwr1 HB21 HB22
      obtain ⟨es, cc, hmo⟩ := MapF.obj H4.out.map
      obtain ⟨ja, jb, jc, jd, hio⟩ := MapI.itobj HMI4.out
      have hT := HX.out.off H4.out.obj (fun _ _ e => absurd (Obj.cells.inj e).2.1 (by decide)) (fun _ _ e => absurd (Obj.cells.inj e).2.1 (by decide)) (fun _ _ e => absurd (Obj.cells.inj e).2.1 (by decide))
      have hM := HX.out.off hmo (fun _ _ e => by cases e) (fun _ _ e => by cases e) (fun _ _ e => by cases e)
      have hI := HX.out.off hio (fun _ _ e => by cases e) (fun _ _ e => by cases e) (fun _ _ e => by cases e)
      have hK := HX.out.off HK4.out (fun _ _ e => absurd (Obj.cells.inj e).2.1 (by decide)) (fun _ _ e => absurd (Obj.cells.inj e).2.1 (by decide)) (fun _ _ e => absurd (Obj.cells.inj e).2.1 (by decide))
      have kT : kb ≠ tp := fun e => by have h9 := HK4.out; unfold KB2 at h9; rw [e, H4.out.obj] at h9; exact absurd (Obj.cells.inj (Option.some.inj h9)).2.1 (by decide)
      have kM : kb ≠ M := fun e => by have h9 := HK4.out; unfold KB2 at h9; rw [e, hmo] at h9; cases h9
      have iT : it ≠ tp := fun e => by rw [e, H4.out.obj] at hio; cases hio
      have nqx : q ≠ xb := fun e => by
        obtain ⟨c, z, e2⟩ := row_obj HX.out.own (q := q) rfl
        have h9 := HX.out.lb
        unfold LB at h9
        simp only at h9
        rw [e, h9] at e2
        exact absurd (Obj.cells.inj (Option.some.inj e2)).2.1 (by decide)
      have HNQ := Lib.hid (show (q ≠ tp ∧ xb ≠ tp ∧ q ≠ xb) ∧ (M ≠ tp ∧ M ≠ xb ∧ M ≠ q) ∧ (it ≠ tp ∧ it ≠ xb ∧ it ≠ q) ∧ (kb ≠ tp ∧ kb ≠ xb ∧ kb ≠ q ∧ kb ≠ M) from
        ⟨⟨hT.2.1 q rfl, hT.1, nqx⟩, ⟨fun e => H4.out.ne e.symm, fun e => hM.1 e.symm, fun e => hM.2.1 q rfl e.symm⟩, ⟨iT, fun e => hI.1 e.symm, fun e => hI.2.1 q rfl e.symm⟩, ⟨kT, fun e => hK.1 e.symm, fun e => hK.2.1 q rfl e.symm, kM⟩⟩)
      clear hmo hio hT hM hI hK kT kM iT nqx
      have HL23 := Lib.hid (show LB w23 xb (.slice (some ⟨q, 0, none⟩) xl.length xc) from HX.out.lb.chg HC23.out HNQ.out.1.2.1)
      have HW23 := Lib.hid (show OwnL 72 4 flenc w23 W.heap.size (.slice (some ⟨q, 0, none⟩) xl.length xc) xl from HX.out.own.chg HC23.out fun z hz => by cases hz; exact HNQ.out.1.1)
      have HG23 := Lib.hid (show Chg (TB tp M F) w1 w23 from HC4.out.same (HC23.out.mono fun z e => .inl e))
      have hform : ∀ f ∈ xl, ∃ a m c, f.vv = .slice a m c := fun f hf => by
        obtain ⟨a, c, e, -, -⟩ := (HX.out.vec f hf).vc.form
        exact ⟨a, _, c, e⟩
      have HDEL := Lib.hid (fdelete HW23.out HNE.out hform (fun f => U f.pl) g lb HEV.out fun W' f hf hc => HP.out W' f (hform f hf) (HG23.out.same (hc.mono fun z e => by
        have e : z = q := e
        exact HC.out.2 _ (.inr (.inr ⟨_, _, HF.out, .inr (by rw [e]; rfl)⟩)))))
      have l0 := HL23.out.cell
      have ll := HL23.out.lt
      clear hform
      go_wp2_with fail
      clear l0 ll
      refine HDEL.out.mono ?_
      rintro e w24 ⟨rfl, how, hc24⟩
      obtain ⟨l2, hl2⟩ : ∃ l2, l2 = xl.filter fun f => !U f.pl := ⟨_, rfl⟩
      rw [← hl2] at how ⊢
      have HL2 := Lib.hid hl2; have HW24 := Lib.hid how; have HC24 := Lib.hid hc24
      have HL24 := Lib.hid (HL23.out.chg hc24 fun e => HNQ.out.1.2.2 e.symm)
      clear hl2 how hc24 HDEL
      have l0 := HL24.out.cell
      have lf := HL24.out.fz 0
      have ll := HL24.out.lt
      go_upto_region 9 with (fail)
      clear l0 lf ll
      have HL25 := Lib.hid (HL24.out.set (.slice (some ⟨q, 0, none⟩) l2.length xc))
      have HC25 := Lib.hid ((Chg.refl (fun z => z = xb) w24).setCell (p := ⟨xb, 0, none⟩) (.inl rfl) (.slice (some ⟨q, 0, none⟩) l2.length xc))
      generalize w24.setCell ⟨xb, 0, none⟩ (.slice (some ⟨q, 0, none⟩) l2.length xc) = w25 at *
      have HW25 := Lib.hid (HW24.out.chg HC25.out fun z hz => by cases hz; exact HNQ.out.1.2.2)
      have ho25 := (HC25.out.block tp (by have h1 := (Array.getElem?_eq_some_iff.1 HO23.out).1; exact Nat.lt_of_lt_of_le h1 HC24.out.size) (fun e => HNQ.out.1.2.1 e.symm)).trans ((HC24.out.block tp (Array.getElem?_eq_some_iff.1 HO23.out).1 (fun e => HNQ.out.1.1 e.symm)).trans HO23.out)
      have HO25 := Lib.hid ho25
      have hcl : (cutK U k S1).length + xl.length = S1.length + l2.length := by
        have := cutK_len U k S1
        rw [HPL.out, List.length_map, List.filter_map, List.length_map] at this
        rw [HL2.out]
        exact this
      have HCL := Lib.hid hcl
      have hwr2 : IntKind.i64.wrap ((S1.length : Int) - (xl.length : Int) + (l2.length : Int)) = ((cutK U k S1).length : Int) := by
        have h1 : (cutK U k S1).length ≤ S1.length := List.length_filter_le _ _
        have h2 := H4.out.cp; have h3 := H4.out.c1
        rw [show (S1.length : Int) - (xl.length : Int) + (l2.length : Int) = ((cutK U k S1).length : Int) by omega]
        exact IntWalk.i64_in _ (by omega)
      have c1 : w25.cell? ⟨tp, 1, none⟩ = some (.int .i64 ((S1.length : Int) - (xl.length : Int))) := by simp [World.cell?, ho25]
      have cl : tp < w25.heap.size := (Array.getElem?_eq_some_iff.1 ho25).1
      have l0 := HL25.out.cell
      have ll := HL25.out.lt
      clear hcl ho25
      refine Mix.regionL (fun _ => False) (by kernel_rfl) ?_
      intro w30 hb30
      refine Mix.take_exL _ _ 0 rfl (by kernel_rfl) (by kernel_rfl) (by kernel_rfl) (by kernel_rfl) (by kernel_rfl) (by kernel_rfl) (fun K hK => ?_)
      go_simp
      first | (refine hK _ ?_; clear hK K) | (apply Exists.intro; refine ⟨fun x => ?_, hK _ ?_⟩; (fail); clear hK K)
      refine Mix.take_exL _ _ 1 rfl (by kernel_rfl) (by kernel_rfl) (by kernel_rfl) (by kernel_rfl) (by kernel_rfl) (by kernel_rfl) (fun K hK => ?_)
      go_simp
      first | (refine hK _ ?_; clear hK K) | (apply Exists.intro; refine ⟨fun x => ?_, hK _ ?_⟩; (fail); clear hK K)
      refine Mix.take_exL _ _ 2 rfl (by kernel_rfl) (by kernel_rfl) (by kernel_rfl) (by kernel_rfl) (by kernel_rfl) (by kernel_rfl) (fun K hK => ?_)
      go_simp
      first | (refine hK _ ?_; clear hK K) | (apply Exists.intro; refine ⟨fun x => ?_, hK _ ?_⟩; (fail); clear hK K)
      refine Mix.take_exL _ _ 3 rfl (by kernel_rfl) (by kernel_rfl) (by kernel_rfl) (by kernel_rfl) (by kernel_rfl) (by kernel_rfl) (fun K hK => ?_)
      go_simp
      first | (refine hK _ ?_; clear hK K) | (apply Exists.intro; refine ⟨fun x => ?_, hK _ ?_⟩; (fail); clear hK K)
      refine Mix.take_exL _ _ 4 rfl (by kernel_rfl) (by kernel_rfl) (by kernel_rfl) (by kernel_rfl) (by kernel_rfl) (by kernel_rfl) (fun K hK => ?_)
      go_simp
      first | (refine hK _ ?_; clear hK K) | (apply Exists.intro; refine ⟨fun x => ?_, hK _ ?_⟩; (fail); clear hK K)
      refine Mix.take_exL _ _ 5 rfl (by kernel_rfl) (by kernel_rfl) (by kernel_rfl) (by kernel_rfl) (by kernel_rfl) (by kernel_rfl) (fun K hK => ?_)
      go_simp
      first | (refine hK _ ?_; clear hK K) | (apply Exists.intro; refine ⟨fun x => ?_, hK _ ?_⟩; (fail); clear hK K)
      refine Mix.take_exL _ _ 6 rfl (by kernel_rfl) (by kernel_rfl) (by kernel_rfl) (by kernel_rfl) (by kernel_rfl) (by kernel_rfl) (fun K hK => ?_)
      go_simp
      first | (refine hK _ ?_; clear hK K) | (apply Exists.intro; refine ⟨fun x => ?_, hK _ ?_⟩; (fail); clear hK K)
      refine Mix.take_exL _ _ 7 rfl (by kernel_rfl) (by kernel_rfl) (by kernel_rfl) (by kernel_rfl) (by kernel_rfl) (by kernel_rfl) (fun K hK => ?_)
      go_simp
      first | (refine hK _ ?_; clear hK K) | (apply Exists.intro; refine ⟨fun x => ?_, hK _ ?_⟩; (fail); clear hK K)
      refine Mix.take_exL _ _ 8 rfl (by kernel_rfl) (by kernel_rfl) (by kernel_rfl) (by kernel_rfl) (by kernel_rfl) (by kernel_rfl) (fun K hK => ?_)
      go_simp
      first | (refine hK _ ?_; clear hK K) | (apply Exists.intro; refine ⟨fun x => ?_, hK _ ?_⟩; (fail); clear hK K)
      refine Mix.take_exL _ _ 9 rfl (by kernel_rfl) (by kernel_rfl) (by kernel_rfl) (by kernel_rfl) (by kernel_rfl) (by kernel_rfl) (fun K hK => ?_)
      go_simp
      first | (refine hK _ ?_; clear hK K) | (apply Exists.intro; refine ⟨fun x => ?_, hK _ ?_⟩; (fail); clear hK K)
      refine Mix.allL (rs := [10]) (by kernel_rfl) (by simp) (.of_below _ hb30) (by kernel_rfl) ?_
      intro i31 hi31 w31 hb31 hC31
      simp only [List.mem_cons, List.not_mem_nil, or_false] at hi31
      subst hi31
      have HB31 := Lib.hid (bt hb30 hb31)
      clear hC31 hb30 hb31
      refine Mix.op rfl (by kernel_rfl) ?_
      go_simp
      refine Mix.take_exL _ _ 11 rfl (by kernel_rfl) (by kernel_rfl) (by kernel_rfl) (by kernel_rfl) (by kernel_rfl) (by kernel_rfl) (fun K hK => ?_)
      go_simp
      first | (refine hK _ ?_; clear hK K) | (apply Exists.intro; refine ⟨fun x => ?_, hK _ ?_⟩; (fail); clear hK K)
      refine Mix.allL (rs := [12]) (by kernel_rfl) (by simp) (.of_below _ HB31.out) (by kernel_rfl) ?_
      intro i32 hi32 w32 hb32 hC32
      simp only [List.mem_cons, List.not_mem_nil, or_false] at hi32
      subst hi32
      have HB32 := Lib.hid (bt HB31.out hb32)
      clear hC32 hb32 c1 cl l0 ll
      have ho32 := (HB32.out.block tp (Array.getElem?_eq_some_iff.1 HO25.out).1).trans HO25.out
      have cf : w32.frozen? ⟨tp, 1, none⟩ = false := by simp [World.frozen?, ho32]
      have c1 : w32.cell? ⟨tp, 1, none⟩ = some (.int .i64 ((S1.length : Int) - (xl.length : Int))) := by simp [World.cell?, ho32]
      have cl : tp < w32.heap.size := (Array.getElem?_eq_some_iff.1 ho32).1
      refine Mix.op rfl (by kernel_rfl) ?_
      go_simp
      refine Mix.doneL (by kernel_rfl) (by kernel_rfl) ?_
      intro w33 hb33
      have HC33 := Lib.hid (((Chg.of_below (fun b => b = tp) HB32.out).setCell (p := ⟨tp, 1, none⟩) (.inl rfl) (.int .i64 ((cutK U k S1).length : Int))).then_below hb33)
      have HO33 := Lib.hid (show w33.heap[tp]? = some (.cells #[.int .i64 cap, .int .i64 ((cutK U k S1).length : Int), .map (some M)] 92 (0, 0)) from by
        have h1 := heap_setCell_at (b := tp) (o := 1) (.int .i64 ((cutK U k S1).length : Int)) ho32
        exact (hb33.block tp (Array.getElem?_eq_some_iff.1 h1).1).trans h1)
      clear hb33 cf c1 cl ho32 hwr2 HB31 HB32
      have HCB := Lib.hid (show Chg (fun b => b = tp ∨ b = xb ∨ b = q) w4 w33 from
        (((HC23.out.mono fun z e => .inl e).same (HC24.out.mono fun z e => .inr (.inr e))).same (HC25.out.mono fun z e => .inr (.inl e))).same (HC33.out.mono fun z e => .inl e))
      have HL33 := Lib.hid (HL25.out.chg HC33.out HNQ.out.1.2.1)
      have HW33 := Lib.hid (HW25.out.chg HC33.out fun z hz => by cases hz; exact HNQ.out.1.1)
      have HK33 := Lib.hid (HK4.out.chg HCB.out (by have h1 := HNQ.out.2.2.2; rintro (e | e | e); exact h1.1 e; exact h1.2.1 e; exact h1.2.2.1 e))
      have HMI33 := Lib.hid (HMI4.out.chg HCB.out (by have h1 := HNQ.out.2.1; rintro (e | e | e); exact h1.1 e; exact h1.2.1 e; exact h1.2.2 e) (by have h1 := HNQ.out.2.2.1; rintro (e | e | e); exact h1.1 e; exact h1.2.1 e; exact h1.2.2 e))
      have HG33 := Lib.hid (show Chg (TB tp M F) w1 w33 from HC4.out.same (HCB.out.mono fun z e => HC.out.2 z (by rcases e with e | e | e; exact .inl e; exact .inr (.inr ⟨_, _, HF.out, .inl e⟩); exact .inr (.inr ⟨_, _, HF.out, .inr (by rw [e]; rfl)⟩))))
      have HRK := Lib.hid (show keepK U ((R.eraseIdx j).map (·.1)) S = cutK U k S1 ∧ k ∉ (R.eraseIdx j).map (·.1) ∧ ((R.eraseIdx j).map (·.1)).Nodup from by
        have h1 := (erase_perm' HR.out).map (·.1)
        rw [List.map_cons] at h1
        have h2 := h1.nodup_iff.2 HG.out.nd
        have h3 := List.nodup_cons.1 h2
        refine ⟨?_, h3.1, h3.2⟩
        rw [HS1.out]
        exact (keepK_cut U (fun z => by rw [← h1.mem_iff]; simp) h3.1 S).symm)
      have HRF := Lib.hid (show ∀ p ∈ R.eraseIdx j, p.1 ≠ k ∧ F' p.1 = some p.2 from fun p hp => ⟨fun e => HRK.out.2.1 (by rw [← e]; exact List.mem_map.2 ⟨p, hp, rfl⟩), HG.out.rf p (List.mem_of_mem_eraseIdx hp)⟩)
      have HJL := Lib.hid (show (R.eraseIdx j).length + 1 = R.length from by
        have hjl : j < R.length := (List.getElem?_eq_some_iff.1 HR.out).1
        rw [List.length_eraseIdx, if_pos hjl]; omega)
      have l0 := HL33.out.cell
      have ll := HL33.out.lt
      have hers : ∀ {L' : List (K2 × Value)} {wx : World}, MapI KP wx M it L' ((R.map entF).eraseIdx j) → MapI KP wx M it L' ((R.eraseIdx j).map entF) := fun h => by
        rw [ChangeMaps.map_eraseIdx]; exact h
      have HERS := Lib.hid (hers HMI33.out)
      clear hers
      by_cases he : l2 = []
      · have hlb : ((l2.length : Int) == 0) = true := by rw [he]; rfl
        have hfu : ∀ i, upd F' k none i = if i = k then (if (xl.filter fun f => !U f.pl) = [] then none else some ⟨xb, .slice (some ⟨q, 0, none⟩) l2.length xc, xl.filter fun f => !U f.pl⟩) else F' i := fun i => by
          have e2 : (xl.filter fun f => !U f.pl) = [] := by rw [← HL2.out]; exact he
          unfold upd
          rw [if_pos e2]
        have HFU := Lib.hid hfu
        have c2 : w33.cell? ⟨tp, 2, none⟩ = some (.map (some M)) := by simp [World.cell?, HO33.out]
        have cl : tp < w33.heap.size := (Array.getElem?_eq_some_iff.1 HO33.out).1
        obtain ⟨k0, k1⟩ := HK33.out.cells
        have kl := HK33.out.lt
        have nMt : tp ≠ M := H4.out.ne
        have nkM := HNQ.out.2.2.2.2.2.2
        clear he hfu
        go_wp2_with fail
        refine Mix.regionC (fun b => b = M) (by kernel_rfl) ?_
        intro w40 hb40
        refine Mix.take_exC _ _ 0 rfl (by kernel_rfl) (by kernel_rfl) (by kernel_rfl) (by kernel_rfl) (fun K hK => ?_)
        go_simp
        first | (refine hK _ ?_; clear hK K) | (apply Exists.intro; refine ⟨fun x => ?_, hK _ ?_⟩; (fail); clear hK K)
        refine Mix.take_exC _ _ 1 rfl (by kernel_rfl) (by kernel_rfl) (by kernel_rfl) (by kernel_rfl) (fun K hK => ?_)
        go_simp
        first | (refine hK _ ?_; clear hK K) | (apply Exists.intro; refine ⟨fun x => ?_, hK _ ?_⟩; (fail); clear hK K)
        refine Mix.take_exC _ _ 2 rfl (by kernel_rfl) (by kernel_rfl) (by kernel_rfl) (by kernel_rfl) (fun K hK => ?_)
        go_simp
        first | (refine hK _ ?_; clear hK K) | (apply Exists.intro; refine ⟨fun x => ?_, hK _ ?_⟩; (fail); clear hK K)
        refine Mix.take_exC _ _ 3 rfl (by kernel_rfl) (by kernel_rfl) (by kernel_rfl) (by kernel_rfl) (fun K hK => ?_)
        go_simp
        first | (refine hK _ ?_; clear hK K) | (apply Exists.intro; refine ⟨fun x => ?_, hK _ ?_⟩; (fail); clear hK K)
        refine Mix.take_exC _ _ 4 rfl (by kernel_rfl) (by kernel_rfl) (by kernel_rfl) (by kernel_rfl) (fun K hK => ?_)
        go_simp
        first | (refine hK _ ?_; clear hK K) | (apply Exists.intro; refine ⟨fun x => ?_, hK _ ?_⟩; (fail); clear hK K)
        refine Mix.all (rs := [5]) (by kernel_rfl) (by simp) (.of_below _ hb40) ?_
        intro i41 hi41 w41 hb41 hC41
        simp only [List.mem_cons, List.not_mem_nil, or_false] at hi41
        subst hi41
        have HB41 := Lib.hid (bt hb40 hb41)
        clear hC41 hb40 hb41
        obtain ⟨o2, hdr, hmi2⟩ := (HERS.out.below HB41.out).drop keyP Try.underlying90 0 (x := k) HKI.out
        replace hdr : (Builtin.delete_ #[90, 109] 0 #[.map (some M), .agg #[.int .i64 k.a, .int .i64 k.b]]).run Try.prog w41 = .ok (.tuple #[]) (ChangeMaps.setBlock w41 M o2) := hdr
        have hcd : Chg (fun b => b = M) w41 (ChangeMaps.setBlock w41 M o2) := .of_grown (grown_setBlock w41 M o2) fun z e => by cases e; rfl
        have HCD := Lib.hid ((Chg.of_below (fun b => b = M) HB41.out).same hcd)
        have htd : ((R.eraseIdx j).map entF).filter (fun p => decide (p.1 ≠ k)) = (R.eraseIdx j).map entF := List.filter_eq_self.2 fun p hp => by
          obtain ⟨p0, hp0, rfl⟩ := List.mem_map.1 hp
          exact decide_eq_true (HRF.out p0 hp0).1
        rw [htd] at hmi2
        have HMI2 := Lib.hid hmi2
        clear hmi2 hcd htd
        generalize ChangeMaps.setBlock w41 M o2 = w42 at *
        refine Mix.op rfl (by kernel_rfl) ?_
        go_simp
        clear hdr
        refine Mix.done (by kernel_rfl) HCD.out ?_
        intro w43 hb43
        have HCD := Lib.hid (HCD.out.then_below hb43)
        have HMI3 := Lib.hid (HMI2.out.below hb43)
        clear hb43 l0 ll c2 cl k0 k1 kl
        go_wp2
        go_roundw
        case rel =>
          have hM := HNQ.out.2.1
          have hlk : ∀ z, (mdel L k).lookup z = (upd F' k none z).map fxval := fun z => by
            rw [look_mdel]; unfold upd
            split
            · rfl
            · exact HG.out.lk z
          have hft := H4.out.cut (F' := upd F' k none) HF.out U HFU.out (w' := w43)
            (((HCB.out.mono fun z e => by rcases e with e | e | e; exact .inl e; exact .inr (.inr (.inl e)); exact .inr (.inr (.inr (by rw [e]; rfl)))).same (HCD.out.mono fun z e => .inr (.inl e))))
            ((HCD.out.block tp (Array.getElem?_eq_some_iff.1 HO33.out).1 H4.out.ne).trans HO33.out) ⟨_, HMI3.out.map, hlk⟩
            (HL33.out.chg HCD.out fun e => hM.2.1 e.symm) (by rw [← HL2.out]; exact HW33.out.chg HCD.out fun z hz => by cases hz; exact fun e => hM.2.2 e.symm) (fun z hz => hz)
          refine ⟨_, _, R.eraseIdx j, Lib.hid ⟨by rw [HRK.out.1]; exact hft, HMI3.out, hlk, fun p hp => ?_, HRK.out.2.2⟩, Lib.hid ⟨HG33.out.same (HCD.out.mono fun z e => .inr (.inl e)), fun z e => HC.out.2 z ?_⟩⟩
          · unfold upd; rw [if_neg (HRF.out p hp).1]; exact (HRF.out p hp).2
          · rcases e with e | e | ⟨k', x', e1, e2⟩
            · exact .inl e
            · exact .inr (.inl e)
            · unfold upd at e1
              split at e1
              · cases e1
              · exact .inr (.inr ⟨k', x', e1, e2⟩)
        case measure =>
          show leftN _ M it < leftN _ M it
          rw [HMI3.out.left, HLEN.out, List.length_map]
          have := HJL.out; omega
      · have hlb : ((l2.length : Int) == 0) = false := by
          have : l2.length ≠ 0 := fun e => he (List.eq_nil_of_length_eq_zero e)
          simpa using this
        have HFU := Lib.hid (show ∀ i, upd F' k (some ⟨xb, .slice (some ⟨q, 0, none⟩) l2.length xc, l2⟩) i = if i = k then (if (xl.filter fun f => !U f.pl) = [] then none else some ⟨xb, .slice (some ⟨q, 0, none⟩) l2.length xc, xl.filter fun f => !U f.pl⟩) else F' i from fun i => by
          have e2 : ¬ (xl.filter fun f => !U f.pl) = [] := by rw [← HL2.out]; exact he
          unfold upd
          rw [if_neg e2, ← HL2.out])
        clear he
        go_wp2
        go_roundw
        case rel =>
          have hM := HNQ.out.2.1
          have hlk : ∀ z, L.lookup z = (upd F' k (some ⟨xb, .slice (some ⟨q, 0, none⟩) l2.length xc, l2⟩) z).map fxval := fun z => by
            rw [HG.out.lk z]; unfold upd
            by_cases hz : z = k
            · rw [if_pos hz, hz, HF.out]; rfl
            · rw [if_neg hz]
          have hft := H4.out.cut (F' := upd F' k (some ⟨xb, .slice (some ⟨q, 0, none⟩) l2.length xc, l2⟩)) HF.out U HFU.out (w' := w33)
            (HCB.out.mono fun z e => by rcases e with e | e | e; exact .inl e; exact .inr (.inr (.inl e)); exact .inr (.inr (.inr (by rw [e]; rfl))))
            HO33.out ⟨_, HMI33.out.map, hlk⟩ HL33.out (by rw [← HL2.out]; exact HW33.out) (fun z hz => hz)
          refine ⟨_, L, R.eraseIdx j, Lib.hid ⟨by rw [HRK.out.1]; exact hft, HERS.out, hlk, fun p hp => ?_, HRK.out.2.2⟩, Lib.hid ⟨HG33.out, fun z e => HC.out.2 z ?_⟩⟩
          · unfold upd; rw [if_neg (HRF.out p hp).1]; exact (HRF.out p hp).2
          · rcases e with e | e | ⟨k', x', e1, e2⟩
            · exact .inl e
            · exact .inr (.inl e)
            · unfold upd at e1
              split at e1
              · cases e1
                rcases e2 with e2 | e2
                · exact .inr (.inr ⟨_, _, HF.out, .inl e2⟩)
                · exact .inr (.inr ⟨_, _, HF.out, .inr e2⟩)
              · exact .inr (.inr ⟨k', x', e1, e2⟩)
        case measure =>
          show leftN _ M it < leftN _ M it
          rw [HERS.out.left, HLEN.out, List.length_map]
          have := HJL.out; omega
theorem FT.tbG (h : FT W w tp M cap F S) : ∀ q, TB tp M F q → FrG W w q := by
  rintro q (e | e | ⟨k, x, e1, e2⟩)
  · rw [e]; exact ⟨h.new.1, _, h.obj, .inl ⟨_, _, rfl⟩⟩
  · rw [e]; exact h.toFQ.frM
  · exact h.toFQ.frG e1 q (.inr e2)
end
end Go.Proofs.Ytennhfkhdfalfaa
