/- offers: Issue of an offer that comes in. -/
import Derived.Test.YtnckjacbkhoppaaOf4
import Derived.Test.YtnckjacbkhoppaaEv0
namespace Go.Proofs.Ytnckjacbkhoppaa
open Go.RowKit Go.Maps Go.MapKept
open Go.ChangeMaps (setBlock)
attribute [local go_sem] ext_cell ext_frozen extC_cell extC_frozen Mix.calmUpon Mix.mUpon
/-- A table's parts, while it changes. -/
structure OP (w : World) (B tp Mo Mf Ma : Nat) (great l : Int) (S : List Ofr) (L : List (Int × Value)) (gf ga : Int → List Int) (F A : Nat → Prop) : Prop where
  obj : w.heap[tp]? = some (.cells #[.int .i64 great, .int .i64 l, .map (some Mo), .map (some Mf), .map (some Ma)] 84 (0, 0))
  map : MapK K64 w Mo L
  fr : SG w B Mf gf F
  ag : SG w B Ma ga A
  vec : ∀ x ∈ S, OwnP w B x.vv x.ps
section
variable {w w' : World} {B tp Mo Mf Ma : Nat} {great l : Int} {S : List Ofr} {L : List (Int × Value)} {gf ga : Int → List Int} {F A : Nat → Prop}
theorem OP.chg {G : Nat → Prop} (h : OP w B tp Mo Mf Ma great l S L gf ga F A) (hc : Chg G w w') (h1 : ¬ G tp) (h2 : ¬ G Mo) (h3 : ∀ b, F b → ¬ G b) (h4 : ∀ b, A b → ¬ G b) (h5 : ∀ x ∈ S, ∀ b, x.vv.ownBlock = some b → ¬ G b) : OP w' B tp Mo Mf Ma great l S L gf ga F A :=
  ⟨by rw [hc.block tp (Array.getElem?_eq_some_iff.1 h.obj).1 h1]; exact h.obj, h.map.chg hc h2, h.fr.chg hc h3, h.ag.chg hc h4, fun x hx => ownsRow_chg (h.vec x hx) hc (h5 x hx)⟩
theorem OP.below (h : OP w B tp Mo Mf Ma great l S L gf ga F A) (hb : Below w.heap.size w w') : OP w' B tp Mo Mf Ma great l S L gf ga F A := h.chg (G := fun _ => False) (.of_below _ hb) id id (fun _ _ => id) (fun _ _ => id) fun _ _ _ _ => id
theorem OP.cells (h : OP w B tp Mo Mf Ma great l S L gf ga F A) : w.cell? ⟨tp, 0, none⟩ = some (.int .i64 great) ∧ w.cell? ⟨tp, 1, none⟩ = some (.int .i64 l) ∧ w.cell? ⟨tp, 2, none⟩ = some (.map (some Mo)) ∧ w.cell? ⟨tp, 3, none⟩ = some (.map (some Mf)) ∧ w.cell? ⟨tp, 4, none⟩ = some (.map (some Ma)) := by
  have := h.obj; simp [World.cell?, this]
theorem OP.lt (h : OP w B tp Mo Mf Ma great l S L gf ga F A) : tp < w.heap.size := (Array.getElem?_eq_some_iff.1 h.obj).1
theorem OP.fz (h : OP w B tp Mo Mf Ma great l S L gf ga F A) (o : Nat) : w.frozen? ⟨tp, o, none⟩ = false := by have := h.obj; simp [World.frozen?, this]
theorem OT.op {last : Int} (h : OT w B tp Mo Mf Ma great last S L F A) : OP w B tp Mo Mf Ma great last S L (gF S) (gA S) F A := ⟨h.obj, h.map, h.fr, h.ag, h.vec⟩
/-- The parts lie apart. -/
structure OD (tp Mo : Nat) (F A V : Nat → Prop) : Prop where
  M : tp ≠ Mo
  F : ∀ b, F b → b ≠ tp ∧ b ≠ Mo ∧ ¬ A b ∧ ¬ V b
  A : ∀ b, A b → b ≠ tp ∧ b ≠ Mo ∧ ¬ V b
  V : ∀ b, V b → b ≠ tp ∧ b ≠ Mo
theorem OT.od {last : Int} (h : OT w B tp Mo Mf Ma great last S L F A) : OD tp Mo F A (fun b => ∃ x ∈ S, x.vv.ownBlock = some b) :=
  ⟨h.hM.1, fun b hb => ⟨(h.hF b hb).1, (h.hF b hb).2.1, (h.hF b hb).2.2, fun ⟨x, hx, e⟩ => (h.vs x hx b e).2.2.1 hb⟩, fun b hb => ⟨(h.hA b hb).1, (h.hA b hb).2, fun ⟨x, hx, e⟩ => (h.vs x hx b e).2.2.2 hb⟩, fun b ⟨x, hx, e⟩ => ⟨(h.vs x hx b e).1, (h.vs x hx b e).2.1⟩⟩
/-- The number that was assigned last is set. -/
theorem OP.setLast (h : OP w B tp Mo Mf Ma great l S L gf ga F A) (hd : OD tp Mo F A (fun b => ∃ x ∈ S, x.vv.ownBlock = some b)) (l' : Int) : OP (w.setCell ⟨tp, 1, none⟩ (.int .i64 l')) B tp Mo Mf Ma great l' S L gf ga F A := by
  have hc : Chg (fun k => k = tp) w (w.setCell ⟨tp, 1, none⟩ (.int .i64 l')) := (Chg.refl (fun k => k = tp) w).setCell (p := ⟨tp, 1, none⟩) (.inl rfl) _
  exact ⟨heap_setCell_at _ h.obj, h.map.chg hc (fun e => hd.M e.symm), h.fr.chg hc fun b hb => (hd.F b hb).1, h.ag.chg hc fun b hb => (hd.A b hb).1, fun x hx => ownsRow_chg (h.vec x hx) hc fun b hb => (hd.V b ⟨x, hx, hb⟩).1⟩
/-- The map of the offers is changed. -/
theorem OP.setMap (h : OP w B tp Mo Mf Ma great l S L gf ga F A) (hd : OD tp Mo F A (fun b => ∃ x ∈ S, x.vv.ownBlock = some b)) {L' : List (Int × Value)} (hm : MapK K64 w' Mo L') (hc : Chg (fun k => k = Mo) w w') : OP w' B tp Mo Mf Ma great l S L' gf ga F A :=
  ⟨by rw [hc.block tp h.lt hd.M]; exact h.obj, hm, h.fr.chg hc fun b hb => (hd.F b hb).2.1, h.ag.chg hc fun b hb => (hd.A b hb).2.1, fun x hx => ownsRow_chg (h.vec x hx) hc fun b hb => (hd.V b ⟨x, hx, hb⟩).2⟩
theorem OP.setF (h : OP w B tp Mo Mf Ma great l S L gf ga F A) (hd : OD tp Mo F A (fun b => ∃ x ∈ S, x.vv.ownBlock = some b)) {g' : Int → List Int} {F' : Nat → Prop} (hg : SG w' B Mf g' F') (hc : Chg F w w') : OP w' B tp Mo Mf Ma great l S L g' ga F' A :=
  ⟨by rw [hc.block tp h.lt fun e => (hd.F _ e).1 rfl]; exact h.obj, h.map.chg hc (fun e => (hd.F _ e).2.1 rfl), hg, h.ag.chg hc fun b hb e => (hd.F _ e).2.2.1 hb, fun x hx => ownsRow_chg (h.vec x hx) hc fun b hb e => (hd.F _ e).2.2.2 ⟨x, hx, hb⟩⟩
theorem OP.setA (h : OP w B tp Mo Mf Ma great l S L gf ga F A) (hd : OD tp Mo F A (fun b => ∃ x ∈ S, x.vv.ownBlock = some b)) {g' : Int → List Int} {A' : Nat → Prop} (hg : SG w' B Ma g' A') (hc : Chg A w w') : OP w' B tp Mo Mf Ma great l S L gf g' F A' :=
  ⟨by rw [hc.block tp h.lt fun e => (hd.A _ e).1 rfl]; exact h.obj, h.map.chg hc (fun e => (hd.A _ e).2.1 rfl), h.fr.chg hc fun b hb e => (hd.F _ hb).2.2.1 e, hg, fun x hx => ownsRow_chg (h.vec x hx) hc fun b hb e => (hd.A _ e).2.2 ⟨x, hx, hb⟩⟩
end
section
variable {w : World} {B tp Mo Mf Ma : Nat} {great last : Int} {S : List Ofr} {L : List (Int × Value)} {F A : Nat → Prop}
set_option maxRecDepth 100000 in
set_option maxHeartbeats 8000000 in
theorem oissue_ok (h : OT w B tp Mo Mf Ma great last S L F A) (hB : B ≤ w.heap.size) (i f a u : Int) {v : Value} {ps : List Pt} (hV : Vc w v ps) (hVK : VK (fun k => k = tp) v ps) (hL : ps.length < 1000000) (hok : PfOk (i, f, a, ps, u)) (hif : I64 f) (hia : I64 a) (hiu : I64 u) (hlt : last < great) :
    Calls Try.prog 38 #[ptr tp, .int .i64 f, .int .i64 a, v, .int .i64 u] w fun e w' => e = .returned (.tuple #[.int .i64 (last + 1), .int .i64 0]) ∧
    ∃ uv F' A', OT w' B tp Mo Mf Ma great (last + 1) (S ++ [⟨last + 1, f, a, uv, ps, u⟩]) (mput L (last + 1) (ofval ⟨last + 1, f, a, uv, ps, u⟩)) F' A' ∧ (∀ b, OB tp Mo F' A' (S ++ [⟨last + 1, f, a, uv, ps, u⟩]) b → OB tp Mo F A S b ∨ w.heap.size ≤ b) ∧ Chg (OB tp Mo F A S) w w' := by
  have HOK := Lib.hid hok; have HI := Lib.hid (And.intro hif (And.intro hia hiu)); have HBW := Lib.hid hB
  have HVK := Lib.hid hVK
  clear hVK
  have hcn := h.cnt
  have hl0 : -9223372036854775808 ≤ last + 1 := by omega
  have hl1 : last + 1 ≤ 9223372036854775807 := by omega
  have hwr : IntKind.i64.wrap (last + 1) = last + 1 := IntWalk.i64_in _ (by omega)
  have HLT := Lib.hid hlt
  clear hok hif hia hiu hB
  obtain ⟨va, vc, hvv, -, -⟩ := hV.form
  subst hvv
  have H := Lib.hid h; have HV := Lib.hid hV; have HL := Lib.hid hL
  clear h hV hL
  obtain ⟨n, hn⟩ : ∃ n, n = ps.length := ⟨_, rfl⟩
  have HN := Lib.hid hn
  rw [← hn] at HV ⊢
  clear hn
  go_enter Try.func38, Try.ntmps38
  go_wp2_with fail
  refine (omade H.out).mono ?_
  rintro e w2 ⟨rfl, rfl⟩
  have hok := HOK.out
  unfold PfOk at hok
  simp only at hok
  have q0 : ¬ f < 1 := by omega
  have q1 : ¬ a < 1 := by omega
  have q3b : ((n : Int) == 0) = false := by
    have : n ≠ 0 := fun e => hok.2.2.1 (List.eq_nil_of_length_eq_zero (by rw [← HN.out]; exact e))
    simp [this]
  have q4 : ¬ u < 0 := by omega
  have hR := vecright_v (.slice va n vc) ps (by have := HL.out; omega) w2 HV.out
  rw [decide_eq_true hok.2.2.2.1] at hR
  have HR := Lib.hid hR
  clear hR hok
  go_wp2_with fail
  refine HR.out.mono ?_
  rintro e w3 ⟨rfl, hb3⟩
  have HB3 := Lib.hid hb3
  have H3 := Lib.hid (H.out.below hb3)
  clear hb3
  obtain ⟨c0, c1, c2, c3, c4⟩ := H3.out.cells
  have hl := H3.out.lt.1
  have hge : decide (great ≤ last) = false := decide_eq_false (by omega)
  have HCN := Lib.hid (And.intro hl0 hl1)
  go_wp2
  refine Mix.regionC (fun _ => False) (by kernel_rfl) ?_
  intro w11 hb11
  refine Mix.take_exC _ _ 0 rfl (by kernel_rfl) (by kernel_rfl) (by kernel_rfl) (by kernel_rfl) (fun K hK => ?_)
  go_simp
  first | (refine hK _ ?_; clear hK K) | (apply Exists.intro; refine ⟨fun x => ?_, hK _ ?_⟩; (fail); clear hK K)
  refine Mix.take_exC _ _ 1 rfl (by kernel_rfl) (by kernel_rfl) (by kernel_rfl) (by kernel_rfl) (fun K hK => ?_)
  go_simp
  first | (refine hK _ ?_; clear hK K) | (apply Exists.intro; refine ⟨fun x => ?_, hK _ ?_⟩; (fail); clear hK K)
  refine Mix.take_exC _ _ 2 rfl (by kernel_rfl) (by kernel_rfl) (by kernel_rfl) (by kernel_rfl) (fun K hK => ?_)
  go_simp
  first | (refine hK _ ?_; clear hK K) | (apply Exists.intro; refine ⟨fun x => ?_, hK _ ?_⟩; (fail); clear hK K)
  refine Mix.take_exC _ _ 3 rfl (by kernel_rfl) (by kernel_rfl) (by kernel_rfl) (by kernel_rfl) (fun K hK => ?_)
  go_simp
  first | (refine hK _ ?_; clear hK K) | (apply Exists.intro; refine ⟨fun x => ?_, hK _ ?_⟩; (fail); clear hK K)
  refine Mix.take_exC _ _ 4 rfl (by kernel_rfl) (by kernel_rfl) (by kernel_rfl) (by kernel_rfl) (fun K hK => ?_)
  go_simp
  first | (refine hK _ ?_; clear hK K) | (apply Exists.intro; refine ⟨fun x => ?_, hK _ ?_⟩; (fail); clear hK K)
  refine Mix.take_exC _ _ 5 rfl (by kernel_rfl) (by kernel_rfl) (by kernel_rfl) (by kernel_rfl) (fun K hK => ?_)
  go_simp
  first | (refine hK _ ?_; clear hK K) | (apply Exists.intro; refine ⟨fun x => ?_, hK _ ?_⟩; (fail); clear hK K)
  refine Mix.take_exC _ _ 6 rfl (by kernel_rfl) (by kernel_rfl) (by kernel_rfl) (by kernel_rfl) (fun K hK => ?_)
  go_simp
  first | (refine hK _ ?_; clear hK K) | (apply Exists.intro; refine ⟨fun x => ?_, hK _ ?_⟩; (fail); clear hK K)
  refine Mix.take_exC _ _ 7 rfl (by kernel_rfl) (by kernel_rfl) (by kernel_rfl) (by kernel_rfl) (fun K hK => ?_)
  go_simp
  first | (refine hK _ ?_; clear hK K) | (apply Exists.intro; refine ⟨fun x => ?_, hK _ ?_⟩; (fail); clear hK K)
  refine Mix.take_exC _ _ 8 rfl (by kernel_rfl) (by kernel_rfl) (by kernel_rfl) (by kernel_rfl) (fun K hK => ?_)
  go_simp
  first | (refine hK _ ?_; clear hK K) | (apply Exists.intro; refine ⟨fun x => ?_, hK _ ?_⟩; (fail); clear hK K)
  refine Mix.done (by kernel_rfl) (.of_below _ hb11) ?_
  intro w12 hb12
  have HB12 := Lib.hid (bt HB3.out (bt hb11 hb12))
  have H12 := Lib.hid (H3.out.below (bt hb11 hb12))
  clear hb11 hb12 c0 c1 c2 c3 c4 hl hge
  obtain ⟨c0, c1, c2, c3, c4⟩ := H12.out.cells
  have hl := H12.out.lt.1
  have hz := H12.out.op.fz 1
  go_wp2
  clear c0 c1 c2 c3 c4 hl hz
  have HD := Lib.hid H12.out.od
  have HP13 := Lib.hid (H12.out.op.setLast HD.out (last + 1))
  have HC13 := Lib.hid (show Chg (fun k => k = tp) w12 (w12.setCell ⟨tp, 1, none⟩ (.int .i64 (last + 1))) from (Chg.refl (fun k => k = tp) w12).setCell (p := ⟨tp, 1, none⟩) (.inl rfl) _)
  have HLTT := Lib.hid H.out.lt
  generalize w12.setCell ⟨tp, 1, none⟩ (.int .i64 (last + 1)) = w13 at *
  obtain ⟨c0, c1, c2, c3, c4⟩ := HP13.out.cells
  have hl := HP13.out.lt
  have nM : ¬ tp = Mo := HD.out.M
  refine Mix.regionC (fun k => k = Mo) (by kernel_rfl) ?_
  intro w14 hb14
  refine Mix.take_exC _ _ 0 rfl (by kernel_rfl) (by kernel_rfl) (by kernel_rfl) (by kernel_rfl) (fun K hK => ?_)
  go_simp
  first | (refine hK _ ?_; clear hK K) | (apply Exists.intro; refine ⟨fun x => ?_, hK _ ?_⟩; (fail); clear hK K)
  refine Mix.take_exC _ _ 1 rfl (by kernel_rfl) (by kernel_rfl) (by kernel_rfl) (by kernel_rfl) (fun K hK => ?_)
  go_simp
  first | (refine hK _ ?_; clear hK K) | (apply Exists.intro; refine ⟨fun x => ?_, hK _ ?_⟩; (fail); clear hK K)
  refine Mix.take_exC _ _ 2 rfl (by kernel_rfl) (by kernel_rfl) (by kernel_rfl) (by kernel_rfl) (fun K hK => ?_)
  go_simp
  first | (refine hK _ ?_; clear hK K) | (apply Exists.intro; refine ⟨fun x => ?_, hK _ ?_⟩; (fail); clear hK K)
  refine Mix.take_exC _ _ 3 rfl (by kernel_rfl) (by kernel_rfl) (by kernel_rfl) (by kernel_rfl) (fun K hK => ?_)
  go_simp
  first | (refine hK _ ?_; clear hK K) | (apply Exists.intro; refine ⟨fun x => ?_, hK _ ?_⟩; (fail); clear hK K)
  refine Mix.take_exC _ _ 4 rfl (by kernel_rfl) (by kernel_rfl) (by kernel_rfl) (by kernel_rfl) (fun K hK => ?_)
  go_simp
  first | (refine hK _ ?_; clear hK K) | (apply Exists.intro; refine ⟨fun x => ?_, hK _ ?_⟩; (fail); clear hK K)
  refine Mix.take_exC _ _ 5 rfl (by kernel_rfl) (by kernel_rfl) (by kernel_rfl) (by kernel_rfl) (fun K hK => ?_)
  go_simp
  first | (refine hK _ ?_; clear hK K) | (apply Exists.intro; refine ⟨fun x => ?_, hK _ ?_⟩; (fail); clear hK K)
  refine Mix.take_exC _ _ 6 rfl (by kernel_rfl) (by kernel_rfl) (by kernel_rfl) (by kernel_rfl) (fun K hK => ?_)
  go_simp
  first | (refine hK _ ?_; clear hK K) | (apply Exists.intro; refine ⟨fun x => ?_, hK _ ?_⟩; (fail); clear hK K)
  refine Mix.take_exC _ _ 7 rfl (by kernel_rfl) (by kernel_rfl) (by kernel_rfl) (by kernel_rfl) (fun K hK => ?_)
  go_simp
  first | (refine hK _ ?_; clear hK K) | (apply Exists.intro; refine ⟨fun x => ?_, hK _ ?_⟩; (fail); clear hK K)
  refine Mix.take_exC _ _ 8 rfl (by kernel_rfl) (by kernel_rfl) (by kernel_rfl) (by kernel_rfl) (fun K hK => ?_)
  go_simp
  first | (refine hK _ ?_; clear hK K) | (apply Exists.intro; refine ⟨fun x => ?_, hK _ ?_⟩; (fail); clear hK K)
  refine Mix.take_exC _ _ 9 rfl (by kernel_rfl) (by kernel_rfl) (by kernel_rfl) (by kernel_rfl) (fun K hK => ?_)
  go_simp
  first | (refine hK _ ?_; clear hK K) | (apply Exists.intro; refine ⟨fun x => ?_, hK _ ?_⟩; (fail); clear hK K)
  refine Mix.take_exC _ _ 10 rfl (by kernel_rfl) (by kernel_rfl) (by kernel_rfl) (by kernel_rfl) (fun K hK => ?_)
  go_simp
  first | (refine hK _ ?_; clear hK K) | (apply Exists.intro; refine ⟨fun x => ?_, hK _ ?_⟩; (fail); clear hK K)
  refine Mix.take_exC _ _ 11 rfl (by kernel_rfl) (by kernel_rfl) (by kernel_rfl) (by kernel_rfl) (fun K hK => ?_)
  go_simp
  first | (refine hK _ ?_; clear hK K) | (apply Exists.intro; refine ⟨fun x => ?_, hK _ ?_⟩; (fail); clear hK K)
  refine Mix.take_exC _ _ 12 rfl (by kernel_rfl) (by kernel_rfl) (by kernel_rfl) (by kernel_rfl) (fun K hK => ?_)
  go_simp
  first | (refine hK _ ?_; clear hK K) | (apply Exists.intro; refine ⟨fun x => ?_, hK _ ?_⟩; (fail); clear hK K)
  refine Mix.take_exC _ _ 13 rfl (by kernel_rfl) (by kernel_rfl) (by kernel_rfl) (by kernel_rfl) (fun K hK => ?_)
  go_simp
  first | (refine hK _ ?_; clear hK K) | (apply Exists.intro; refine ⟨fun x => ?_, hK _ ?_⟩; (fail); clear hK K)
  refine Mix.take_exC _ _ 14 rfl (by kernel_rfl) (by kernel_rfl) (by kernel_rfl) (by kernel_rfl) (fun K hK => ?_)
  go_simp
  first | (refine hK _ ?_; clear hK K) | (apply Exists.intro; refine ⟨fun x => ?_, hK _ ?_⟩; (fail); clear hK K)
  refine Mix.take_exC _ _ 16 rfl (by kernel_rfl) (by kernel_rfl) (by kernel_rfl) (by kernel_rfl) (fun K hK => ?_)
  go_simp
  first | (refine hK _ ?_; clear hK K) | (apply Exists.intro; refine ⟨fun x => ?_, hK _ ?_⟩; (fail); clear hK K)
  refine Mix.all (rs := [15]) (by kernel_rfl) (by simp) (.of_below _ hb14) ?_
  intro i15 hi15 w15 hb15 hC15
  simp only [List.mem_cons, List.not_mem_nil, or_false] at hi15
  subst hi15
  have HB15 := Lib.hid (bt hb14 hb15)
  clear hC15 hb14 hb15
  refine Mix.op rfl (by kernel_rfl) ?_
  go_simp
  have HC15 := Lib.hid (show Chg (fun k => k = tp) w2 w15 from ((Chg.of_below (fun k => k = tp) HB12.out).same HC13.out).then_below HB15.out)
  have hv15 : Vc w15 (.slice va n vc) ps := HV.out.keep HC15.out (by rw [HN.out]; exact HVK.out)
  refine (vcopy_any (.slice va n vc) ps HL.out w15 hv15).mono ?_
  rintro e w16 ⟨uv, rfl, hu, hb16⟩
  refine ⟨_, rfl, ?_⟩
  obtain ⟨ua, uc, rfl, -, -⟩ := hu.vc.form
  rw [← HN.out] at hu ⊢
  have HU16 := Lib.hid hu
  have HB16 := Lib.hid (bt HB15.out hb16)
  clear hu hb16 hv15
  refine Mix.take_exC _ _ 17 rfl (by kernel_rfl) (by kernel_rfl) (by kernel_rfl) (by kernel_rfl) (fun K hK => ?_)
  go_simp
  first | (refine hK _ ?_; clear hK K) | (apply Exists.intro; refine ⟨fun x => ?_, hK _ ?_⟩; (fail); clear hK K)
  refine Mix.all (rs := [18]) (by kernel_rfl) (by simp) (.of_below _ HB16.out) ?_
  intro i17 hi17 w17 hb17 hC17
  simp only [List.mem_cons, List.not_mem_nil, or_false] at hi17
  subst hi17
  have HB17 := Lib.hid (bt HB16.out hb17)
  have HP17 := Lib.hid (HP13.out.below HB17.out)
  have HU17 := Lib.hid (ownsRow_chg HU16.out (.of_below (fun _ => False) hb17) fun _ _ => id)
  clear hC17 hb17
  have HSZ := Lib.hid (show w2.heap.size ≤ w15.heap.size from HC15.out.size)
  obtain ⟨w18, hst, hm18, hc18⟩ := HP17.out.map.store' Try.underlying80 (show I64 (last + 1) from HCN.out) (.agg #[.int .i64 (last + 1), .int .i64 f, .int .i64 a, .slice ua n uc, .int .i64 u])
  have HM18 := Lib.hid hm18; have HC18 := Lib.hid hc18
  clear hm18 hc18
  refine Mix.op rfl (by kernel_rfl) ?_
  go_simp
  clear hst
  refine Mix.done (by kernel_rfl) ((Chg.of_below _ HB17.out).same HC18.out) ?_
  intro w19 hb19
  obtain ⟨x, hx⟩ : ∃ x : Ofr, x = ⟨last + 1, f, a, .slice ua n uc, ps, u⟩ := ⟨_, rfl⟩
  have HX := Lib.hid hx
  have hub : ∀ b, Value.ownBlock (.slice ua n uc) = some b → w2.heap.size ≤ b ∧ b < w17.heap.size := fun b hb => ⟨by have h1 := (HU16.out.lt b hb).1; have := HSZ.out; omega, (HU17.out.lt b hb).2⟩
  have HUB := Lib.hid hub
  have HOD := Lib.hid (show OD tp Mo F A (fun b => ∃ y ∈ S ++ [x], y.vv.ownBlock = some b) from by
    have hd := HD.out
    have hF := H.out.fr.olt; have hA := H.out.ag.olt; have hlt := HLTT.out
    have hn : ∀ b, (∃ y ∈ S ++ [x], y.vv.ownBlock = some b) → (∃ y ∈ S, y.vv.ownBlock = some b) ∨ w2.heap.size ≤ b := fun b ⟨y, hy, e⟩ => by
      rcases List.mem_append.1 hy with hy | hy
      · exact .inl ⟨y, hy, e⟩
      · rw [List.mem_singleton.1 hy, hx] at e; exact .inr (hub b e).1
    exact ⟨hd.M, fun b hb => ⟨(hd.F b hb).1, (hd.F b hb).2.1, (hd.F b hb).2.2.1, fun e => (hn b e).elim (hd.F b hb).2.2.2 fun e => by have := (hF b hb).2; omega⟩,
      fun b hb => ⟨(hd.A b hb).1, (hd.A b hb).2.1, fun e => (hn b e).elim (hd.A b hb).2.2 fun e => by have := (hA b hb).2; omega⟩,
      fun b hb => (hn b hb).elim (hd.V b) fun e => ⟨by omega, by omega⟩⟩)
  have HP19 := Lib.hid (show OP w19 B tp Mo Mf Ma great (last + 1) (S ++ [x]) (mput L (last + 1) (ofval x)) (gF S) (gA S) F A from by
    have h1 := (HP17.out.setMap HD.out HM18.out HC18.out).below hb19
    have h2 := ownsRow_chg (ownsRow_chg HU17.out HC18.out fun b hb e => by have := (hub b hb).1; have := HLTT.out; have e : b = Mo := e; omega) (.of_below (fun _ => False) hb19) fun _ _ => id
    refine ⟨h1.obj, by rw [hx]; exact h1.map, h1.fr, h1.ag, fun y hy => ?_⟩
    rcases List.mem_append.1 hy with hy | hy
    · exact h1.vec y hy
    · rw [List.mem_singleton.1 hy, hx]; exact ownsRow_base h2 (by have := HSZ.out; have := HBW.out; omega))
  have HC19 := Lib.hid (show Chg (OB tp Mo F A S) w2 w19 from ((((Chg.of_below _ HB12.out).same (HC13.out.mono fun k e => .inl e)).same (Chg.of_below _ HB17.out)).same (HC18.out.mono fun k e => .inr (.inl e))).then_below hb19)
  clear hub hb19 hx c0 c1 c2 c3 c4 hl nM
  clear HB15 HB16 HB17 HP17 HM18 HC18 HP13 HC13 HC15 HU16 HU17
  have HNW := Lib.hid (show (∀ g, last + 1 ∉ gF S g) ∧ ∀ g, last + 1 ∉ gA S g from ⟨fun g hm => by
    obtain ⟨y, hy, e⟩ := List.mem_map.1 hm
    have := (H.out.num y (List.mem_filter.1 hy).1).1; omega, fun g hm => by
    obtain ⟨y, hy, e⟩ := List.mem_map.1 hm
    have := (H.out.num y (List.mem_filter.1 hy).1).1; omega⟩)
  obtain ⟨c0, c1, c2, c3, c4⟩ := HP19.out.cells
  have hl := HP19.out.lt
  have nF : ¬ F tp := fun e => (HOD.out.F _ e).1 rfl
  go_wp2
  refine Mix.regionC F (by kernel_rfl) ?_
  intro w20 hb20
  refine Mix.take_exC _ _ 0 rfl (by kernel_rfl) (by kernel_rfl) (by kernel_rfl) (by kernel_rfl) (fun K hK => ?_)
  go_simp
  first | (refine hK _ ?_; clear hK K) | (apply Exists.intro; refine ⟨fun x => ?_, hK _ ?_⟩; (fail); clear hK K)
  refine Mix.take_exC _ _ 1 rfl (by kernel_rfl) (by kernel_rfl) (by kernel_rfl) (by kernel_rfl) (fun K hK => ?_)
  go_simp
  first | (refine hK _ ?_; clear hK K) | (apply Exists.intro; refine ⟨fun x => ?_, hK _ ?_⟩; (fail); clear hK K)
  refine Mix.take_exC _ _ 2 rfl (by kernel_rfl) (by kernel_rfl) (by kernel_rfl) (by kernel_rfl) (fun K hK => ?_)
  go_simp
  first | (refine hK _ ?_; clear hK K) | (apply Exists.intro; refine ⟨fun x => ?_, hK _ ?_⟩; (fail); clear hK K)
  refine Mix.take_exC _ _ 3 rfl (by kernel_rfl) (by kernel_rfl) (by kernel_rfl) (by kernel_rfl) (fun K hK => ?_)
  go_simp
  first | (refine hK _ ?_; clear hK K) | (apply Exists.intro; refine ⟨fun x => ?_, hK _ ?_⟩; (fail); clear hK K)
  refine Mix.take_exC _ _ 4 rfl (by kernel_rfl) (by kernel_rfl) (by kernel_rfl) (by kernel_rfl) (fun K hK => ?_)
  go_simp
  first | (refine hK _ ?_; clear hK K) | (apply Exists.intro; refine ⟨fun x => ?_, hK _ ?_⟩; (fail); clear hK K)
  refine Mix.take_exC _ _ 5 rfl (by kernel_rfl) (by kernel_rfl) (by kernel_rfl) (by kernel_rfl) (fun K hK => ?_)
  go_simp
  first | (refine hK _ ?_; clear hK K) | (apply Exists.intro; refine ⟨fun x => ?_, hK _ ?_⟩; (fail); clear hK K)
  refine Mix.take_exC _ _ 6 rfl (by kernel_rfl) (by kernel_rfl) (by kernel_rfl) (by kernel_rfl) (fun K hK => ?_)
  go_simp
  first | (refine hK _ ?_; clear hK K) | (apply Exists.intro; refine ⟨fun x => ?_, hK _ ?_⟩; (fail); clear hK K)
  refine Mix.take_exC _ _ 7 rfl (by kernel_rfl) (by kernel_rfl) (by kernel_rfl) (by kernel_rfl) (fun K hK => ?_)
  go_simp
  first | (refine hK _ ?_; clear hK K) | (apply Exists.intro; refine ⟨fun x => ?_, hK _ ?_⟩; (fail); clear hK K)
  refine Mix.take_exC _ _ 8 rfl (by kernel_rfl) (by kernel_rfl) (by kernel_rfl) (by kernel_rfl) (fun K hK => ?_)
  go_simp
  first | (refine hK _ ?_; clear hK K) | (apply Exists.intro; refine ⟨fun x => ?_, hK _ ?_⟩; (fail); clear hK K)
  refine Mix.all (rs := [9]) (by kernel_rfl) (by simp) (.of_below _ hb20) ?_
  intro i21 hi21 w21 hb21 hC21
  simp only [List.mem_cons, List.not_mem_nil, or_false] at hi21
  subst hi21
  have HB21 := Lib.hid (bt hb20 hb21)
  clear hC21 hb20 hb21
  refine Mix.op rfl (by kernel_rfl) ?_
  go_simp
  have HP21 := Lib.hid (HP19.out.below HB21.out)
  refine (sadd HP21.out.fr (Nat.le_trans HBW.out (Nat.le_trans HC19.out.size HB21.out.size)) HI.out.1 (show I64 (last + 1) from HCN.out) (HNW.out.1 f)).mono ?_
  rintro e w22 ⟨rfl, F', hg, hc, hF'⟩
  refine ⟨_, rfl, ?_⟩
  refine Mix.done (by kernel_rfl) ((Chg.of_below _ HB21.out).same hc) ?_
  intro w23 hb23
  have HFI := Lib.hid (show ∀ b, F' b → F b ∨ w19.heap.size ≤ b from fun b hb => (hF' b hb).imp id fun e => Nat.le_trans HB21.out.size e)
  have HOD2 := Lib.hid (show OD tp Mo F' A (fun b => ∃ y ∈ S ++ [x], y.vv.ownBlock = some b) from by
    have hd := HOD.out
    have hs := HC19.out.size; have hlt := HLTT.out
    exact ⟨hd.M, fun b hb => (HFI.out b hb).elim (hd.F b) fun e => ⟨by omega, by omega, fun ha => by have := (H.out.ag.olt b ha).2; omega, fun ⟨y, hy, h2⟩ => by have := ((HP19.out.vec y hy).lt b h2).2; omega⟩, hd.A, hd.V⟩)
  have HP23 := Lib.hid ((HP21.out.setF HOD.out hg hc).below hb23)
  have HC23 := Lib.hid (HC19.out.same (((Chg.of_below _ HB21.out).same (hc.mono fun k e => .inr (.inr (.inl e)))).then_below hb23))
  clear hg hc hF' hb23 c0 c1 c2 c3 c4 hl nF
  obtain ⟨c0, c1, c2, c3, c4⟩ := HP23.out.cells
  have hl := HP23.out.lt
  have nA : ¬ A tp := fun e => (HOD2.out.A _ e).1 rfl
  go_wp2
  refine Mix.regionC A (by kernel_rfl) ?_
  intro w24 hb24
  refine Mix.take_exC _ _ 0 rfl (by kernel_rfl) (by kernel_rfl) (by kernel_rfl) (by kernel_rfl) (fun K hK => ?_)
  go_simp
  first | (refine hK _ ?_; clear hK K) | (apply Exists.intro; refine ⟨fun x => ?_, hK _ ?_⟩; (fail); clear hK K)
  refine Mix.take_exC _ _ 1 rfl (by kernel_rfl) (by kernel_rfl) (by kernel_rfl) (by kernel_rfl) (fun K hK => ?_)
  go_simp
  first | (refine hK _ ?_; clear hK K) | (apply Exists.intro; refine ⟨fun x => ?_, hK _ ?_⟩; (fail); clear hK K)
  refine Mix.take_exC _ _ 2 rfl (by kernel_rfl) (by kernel_rfl) (by kernel_rfl) (by kernel_rfl) (fun K hK => ?_)
  go_simp
  first | (refine hK _ ?_; clear hK K) | (apply Exists.intro; refine ⟨fun x => ?_, hK _ ?_⟩; (fail); clear hK K)
  refine Mix.take_exC _ _ 3 rfl (by kernel_rfl) (by kernel_rfl) (by kernel_rfl) (by kernel_rfl) (fun K hK => ?_)
  go_simp
  first | (refine hK _ ?_; clear hK K) | (apply Exists.intro; refine ⟨fun x => ?_, hK _ ?_⟩; (fail); clear hK K)
  refine Mix.take_exC _ _ 4 rfl (by kernel_rfl) (by kernel_rfl) (by kernel_rfl) (by kernel_rfl) (fun K hK => ?_)
  go_simp
  first | (refine hK _ ?_; clear hK K) | (apply Exists.intro; refine ⟨fun x => ?_, hK _ ?_⟩; (fail); clear hK K)
  refine Mix.take_exC _ _ 5 rfl (by kernel_rfl) (by kernel_rfl) (by kernel_rfl) (by kernel_rfl) (fun K hK => ?_)
  go_simp
  first | (refine hK _ ?_; clear hK K) | (apply Exists.intro; refine ⟨fun x => ?_, hK _ ?_⟩; (fail); clear hK K)
  refine Mix.take_exC _ _ 6 rfl (by kernel_rfl) (by kernel_rfl) (by kernel_rfl) (by kernel_rfl) (fun K hK => ?_)
  go_simp
  first | (refine hK _ ?_; clear hK K) | (apply Exists.intro; refine ⟨fun x => ?_, hK _ ?_⟩; (fail); clear hK K)
  refine Mix.take_exC _ _ 7 rfl (by kernel_rfl) (by kernel_rfl) (by kernel_rfl) (by kernel_rfl) (fun K hK => ?_)
  go_simp
  first | (refine hK _ ?_; clear hK K) | (apply Exists.intro; refine ⟨fun x => ?_, hK _ ?_⟩; (fail); clear hK K)
  refine Mix.take_exC _ _ 8 rfl (by kernel_rfl) (by kernel_rfl) (by kernel_rfl) (by kernel_rfl) (fun K hK => ?_)
  go_simp
  first | (refine hK _ ?_; clear hK K) | (apply Exists.intro; refine ⟨fun x => ?_, hK _ ?_⟩; (fail); clear hK K)
  refine Mix.all (rs := [9]) (by kernel_rfl) (by simp) (.of_below _ hb24) ?_
  intro i25 hi25 w25 hb25 hC25
  simp only [List.mem_cons, List.not_mem_nil, or_false] at hi25
  subst hi25
  have HB25 := Lib.hid (bt hb24 hb25)
  clear hC25 hb24 hb25
  refine Mix.op rfl (by kernel_rfl) ?_
  go_simp
  have HP25 := Lib.hid (HP23.out.below HB25.out)
  refine (sadd HP25.out.ag (Nat.le_trans HBW.out (Nat.le_trans HC23.out.size HB25.out.size)) HI.out.2.1 (show I64 (last + 1) from HCN.out) (HNW.out.2 a)).mono ?_
  rintro e w26 ⟨rfl, A', hg, hc, hA'⟩
  refine ⟨_, rfl, ?_⟩
  refine Mix.done (by kernel_rfl) ((Chg.of_below _ HB25.out).same hc) ?_
  intro w27 hb27
  have HAI := Lib.hid (show ∀ b, A' b → A b ∨ w23.heap.size ≤ b from fun b hb => (hA' b hb).imp id fun e => Nat.le_trans HB25.out.size e)
  have HP27 := Lib.hid ((HP25.out.setA HOD2.out hg hc).below hb27)
  have HC27 := Lib.hid (HC23.out.same (((Chg.of_below _ HB25.out).same (hc.mono fun k e => .inr (.inr (.inr (.inl e))))).then_below hb27))
  clear hg hc hA' hb27 c0 c1 c2 c3 c4 hl nA
  obtain ⟨c0, c1, c2, c3, c4⟩ := HP27.out.cells
  have hl := HP27.out.lt
  go_wp2
  go_ret2
  have hx := HX.out
  have hs19 := HC19.out.size; have hs23 := HC23.out.size
  have hok := HOK.out
  unfold PfOk at hok
  simp only at hok
  have hxi : x.id = last + 1 := by rw [hx]
  have hxo : ofval x = ofval ⟨last + 1, f, a, .slice ua n uc, ps, u⟩ := by rw [hx]
  have hF2 : ∀ b, F' b → F b ∨ w2.heap.size ≤ b := fun b hb => (HFI.out b hb).imp id fun e => by omega
  have hA2 : ∀ b, A' b → A b ∨ w2.heap.size ≤ b := fun b hb => (HAI.out b hb).imp id fun e => by omega
  have hiss := H.out.issue (w' := w27) (x := x) (F' := F') (A' := A') HLT.out hxi (by rw [hx]; exact ⟨⟨hok.1, HI.out.1⟩, ⟨hok.2.1, HI.out.2.1⟩, hok.2.2.1, hok.2.2.2.1, HI.out.2.2⟩) HP27.out.obj (by rw [hxi]; exact HP27.out.map) (by rw [hx]; exact HP27.out.fr) (by rw [hx]; exact HP27.out.ag) (fun y hy => HP27.out.vec y (List.mem_append.2 (.inl hy))) (HP27.out.vec x (List.mem_append.2 (.inr (List.mem_singleton.2 rfl)))) hF2 hA2 (fun b hb ha => by
    rcases HAI.out b ha with e | e
    · exact (HOD2.out.F b hb).2.2.1 e
    · have := (HP23.out.fr.olt b hb).2; omega) (fun b hb => by
    have hV : ∃ y ∈ S ++ [x], y.vv.ownBlock = some b := ⟨x, List.mem_append.2 (.inr (List.mem_singleton.2 rfl)), hb⟩
    refine ⟨by rw [hx] at hb; exact (HUB.out b hb).1, fun e => (HOD2.out.F b e).2.2.2 hV, fun e => ?_⟩
    rcases HAI.out b e with e | e
    · exact (HOD2.out.A b e).2.2 hV
    · have := ((HP23.out.vec x (List.mem_append.2 (.inr (List.mem_singleton.2 rfl)))).lt b hb).2; omega)
  refine ⟨rfl, .slice ua n uc, F', A', ?_, fun b hb => ?_, HC27.out⟩
  · rw [hxi] at hiss
    rw [hx] at hiss
    exact hiss
  · rcases hb with e | e | e | e | ⟨y, hy, e⟩
    · exact .inl (.inl e)
    · exact .inl (.inr (.inl e))
    · exact (hF2 b e).imp (fun e => .inr (.inr (.inl e))) id
    · exact (hA2 b e).imp (fun e => .inr (.inr (.inr (.inl e)))) id
    · rcases List.mem_append.1 hy with hy | hy
      · exact .inl (.inr (.inr (.inr (.inr ⟨y, hy, e⟩))))
      · rw [List.mem_singleton.1 hy] at e; exact .inr (HUB.out b e).1
end
end Go.Proofs.Ytnckjacbkhoppaa
