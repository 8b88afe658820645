/- Texts laid together: So0,So1,So2,So3. -/
import Derived.Test.YtgfjmafdfbghnaaGreatSgD
import Derived.Test.YtgfjmafdfbghnaaGreatSgJ
import Derived.Test.YtgfjmafdfbghnaaGreatLib
namespace Go.Proofs.YtgfjmafdfbghnaaGreat
section
open Go.RowKit
attribute [local go_sem] ext_cell ext_frozen extC_cell extC_frozen Mix.calmUpon Mix.mUpon
/-- How two places stand. -/
def plo (p q : Pl) : Int := if scmp p.n p.d p.w q.n q.d q.w = 0 then Go.Lib.compareInt p.i q.i else scmp p.n p.d p.w q.n q.d q.w
/-- The places of clients: H tells where each stands. -/
def JH (H : Int → Option Pl) (p : Pl) : Prop := SRt p.n p.d p.w ∧ H p.i = some p
theorem ci_swap (a b : Int) : Go.Lib.compareInt b a = - Go.Lib.compareInt a b := by
  unfold Go.Lib.compareInt; split <;> split <;> omega
theorem ci_bd (a b : Int) : -1 ≤ Go.Lib.compareInt a b ∧ Go.Lib.compareInt a b ≤ 1 := by
  unfold Go.Lib.compareInt; split <;> (try split) <;> omega
theorem ci_zero (a b : Int) : Go.Lib.compareInt a b = 0 ↔ a = b := by
  unfold Go.Lib.compareInt; split <;> (try split) <;> omega
theorem ci_lt (a b : Int) : Go.Lib.compareInt a b < 0 ↔ a < b := by
  unfold Go.Lib.compareInt; split <;> (try split) <;> omega
theorem plo_swap (p q : Pl) : plo q p = - plo p q := by
  unfold plo
  rw [scmp_swap p.n p.d p.w q.n q.d q.w]
  by_cases h : scmp p.n p.d p.w q.n q.d q.w = 0
  · rw [if_pos (by omega), if_pos h, ci_swap]
  · rw [if_neg (by omega), if_neg h]
theorem plo_bd (p q : Pl) : -1 ≤ plo p q ∧ plo p q ≤ 1 := by
  unfold plo; split
  · exact ci_bd _ _
  · exact scmp_bd _ _ _ _ _ _
theorem plo_lt (p q : Pl) : plo p q < 0 ↔ scmp p.n p.d p.w q.n q.d q.w < 0 ∨ scmp p.n p.d p.w q.n q.d q.w = 0 ∧ p.i < q.i := by
  unfold plo
  split
  · rename_i h; rw [h, ci_lt]; simp
  · rename_i h; simp [h]
theorem scmp_trans {a b c : Pl} (ha : SRt a.n a.d a.w) (hb : SRt b.n b.d b.w) (hc : SRt c.n c.d c.w) (h1 : scmp a.n a.d a.w b.n b.d b.w ≤ 0) (h2 : scmp b.n b.d b.w c.n c.d c.w ≤ 0) : scmp a.n a.d a.w c.n c.d c.w ≤ 0 := by
  rw [scmp_rcA ha hb] at h1; rw [scmp_rcA hb hc] at h2; rw [scmp_rcA ha hc]
  have := rcA_trans (srt_rt ha) (srt_rt hb) (srt_rt hc) h1 h2
  omega
theorem OA_JH (H : Int → Option Pl) : OA (JH H) plo where
  zero := fun a b ha hb => by
    constructor
    · intro h
      unfold plo at h
      split at h
      · have e := (ci_zero a.i b.i).1 h
        have h1 := ha.2; have h2 := hb.2
        rw [e, h2] at h1
        exact (Option.some.inj h1).symm
      · contradiction
    · rintro rfl
      unfold plo
      rw [scmp_self, if_pos rfl]; exact (ci_zero _ _).2 rfl
  anti := fun a b _ _ => by have := plo_swap a b; omega
  trans := fun a b c ha hb hc h1 h2 => by
    rw [plo_lt] at *
    have t1 := scmp_trans ha.1 hb.1 hc.1 (by omega) (by omega)
    have s1 := scmp_swap a.n a.d a.w c.n c.d c.w
    have s2 := scmp_swap a.n a.d a.w b.n b.d b.w
    have s3 := scmp_swap b.n b.d b.w c.n c.d c.w
    by_cases hz : scmp a.n a.d a.w c.n c.d c.w = 0
    · have t2 := scmp_trans hc.1 ha.1 hb.1 (by omega) (by omega)
      have t3 := scmp_trans hb.1 hc.1 ha.1 (by omega) (by omega)
      exact .inr ⟨hz, by omega⟩
    · exact .inl (by omega)
  in64 := fun a b _ _ => by have := plo_bd a b; omega
set_option maxRecDepth 100000 in
set_option maxHeartbeats 1000000 in
theorem plcompare (a b : Pl) (w : World) : Calls Tryz.prog 49 #[plv a, plv b] w fun e w' => e = .returned (.int .i64 (plo a b)) ∧ Below w.heap.size w w' := by
  have hs := scmp_any a.n a.d a.w b.n b.d b.w
  obtain ⟨s, hsq⟩ : ∃ s, scmp a.n a.d a.w b.n b.d b.w = s := ⟨_, rfl⟩
  have hq : plo a b = if s = 0 then Go.Lib.compareInt a.i b.i else s := by unfold plo; rw [hsq]
  rw [hsq] at hs; rw [hq]
  have hcon := fun W' => Go.Proofs.AnyG.cmp_Compare_int Lb.Try.cmp_Compare_int64 a.i b.i W'
  change ∀ W', Calls Tryz.prog 78 _ _ _ at hcon
  generalize Go.Lib.compareInt a.i b.i = r at hcon ⊢
  have hb1 := ba (Below.refl w.heap.size w) (.cells #[.int .i64 a.n, .int .i64 a.d, .int .i64 a.w, .int .i64 a.i] 103)
  have hb2 := ba hb1 (.cells #[.int .i64 b.n, .int .i64 b.d, .int .i64 b.w, .int .i64 b.i] 103)
  have hka := (PK.made w a).below (ba (Below.refl _ _) (.cells #[.int .i64 b.n, .int .i64 b.d, .int .i64 b.w, .int .i64 b.i] 103))
  have hkb := PK.made (w.alloc (.cells #[.int .i64 a.n, .int .i64 a.d, .int .i64 a.w, .int .i64 a.i] 103)) b
  have HB := Lib.hid hb2; have HA := Lib.hid hka; have HK := Lib.hid hkb
  clear hsq hq hb1 hb2 hka hkb
  go_enter Tryz.func49, Tryz.ntmps49
  go_upto_region 1 with (fail)
  generalize (w.alloc (.cells #[.int .i64 a.n, .int .i64 a.d, .int .i64 a.w, .int .i64 a.i] 103)).alloc (.cells #[.int .i64 b.n, .int .i64 b.d, .int .i64 b.w, .int .i64 b.i] 103) = w1 at *
  rw [show (w.alloc (.cells #[.int .i64 a.n, .int .i64 a.d, .int .i64 a.w, .int .i64 a.i] 103)).heap.size = w.heap.size + 1 by simp] at HK
  obtain ⟨a0, a1, a2, a3⟩ := HA.out.cells
  have al := HA.out.lt
  obtain ⟨b0, b1, b2, b3⟩ := HK.out.cells
  have bl := HK.out.lt
  by_cases h0 : s = 0
  · subst h0
    go_wp2_with fail
    refine (hs _).mono ?_
    rintro e w2 ⟨rfl, hb2⟩
    have HB2 := Lib.hid (bt HB.out hb2)
    obtain ⟨a0', a1', a2', a3'⟩ := (HA.out.below hb2).cells
    have al' := (HA.out.below hb2).lt
    obtain ⟨b0', b1', b2', b3'⟩ := (HK.out.below hb2).cells
    have bl' := (HK.out.below hb2).lt
    clear hb2
    go_wp2_with (go_at_call 78; refine (hcon _).mono ?_; rintro e w' ⟨rfl, rfl⟩)
    go_ret
    exact ⟨rfl, HB2.out⟩
  · have hne : (s != 0) = true := by simpa using h0
    go_wp2_with fail
    refine (hs _).mono ?_
    rintro e w2 ⟨rfl, hb2⟩
    have HB2 := Lib.hid (bt HB.out hb2)
    clear hb2
    go_wp2
    go_ret
    exact ⟨rfl, HB2.out⟩
abbrev fcmp : Nat := 49
set_option maxRecDepth 100000 in
theorem OV_JH (tp : Nat) (H : Int → Option Pl) : OV tp fcmp #[] (fun _ => True) (JH H) plo where
  ord := OA_JH H
  cf := fun _ _ _ => rfl
  call := fun w a b _ _ _ => plcompare a b w
  clo := fun _ _ _ _ => trivial
/-- Sums from 0 to Top. -/
def Sm4 (a : Nat → Int) : Prop := ∀ k, k < 4 → 0 ≤ a k ∧ a k ≤ 9007199254740992
instance (a : Nat → Int) : Decidable (Sm4 a) := by unfold Sm4; infer_instance
theorem Sm4.ok {a : Nat → Int} (h : Sm4 a) : SOk a := sok_all fun j hj => by have := h j hj; exact ⟨this.1, by omega⟩
theorem dom_srt {a t : Nat → Int} (ha : Sm4 a) (ht : Sm4 t) {x : Int} (h1 : 1 ≤ x) (h2 : x ≤ 1000) : ∀ k, k ≤ 4 → SRt (dom a t k).2.1 (dom a t k).2.2 x
  | 0, _ => ⟨by simp [dom], by simp [dom], ⟨by simp [dom], by simp [dom]⟩, h1, h2⟩
  | k + 1, hk => by
    have h := dom_srt ha ht h1 h2 k (by omega)
    have ha' := ha k (by omega); have ht' := ht k (by omega)
    unfold dom
    split
    · rename_i hh
      exact ⟨ha'.2, ht'.2, ⟨ha'.1, by have := hh.1; simp; omega⟩, h1, h2⟩
    · exact h
theorem domV_srt {a t : Nat → Int} (ha : Sm4 a) (ht : Sm4 t) {x : Int} (h1 : 1 ≤ x) (h2 : x ≤ 1000) : SRt (domV a t).2.1 (domV a t).2.2 x := by
  unfold domV
  rw [if_pos ⟨ha.ok, ht.ok⟩]
  exact dom_srt ha ht h1 h2 4 (by omega)
end
section
open Go.RowKit
structure Cl where
  wt : Int
  s : Nat → Int
  aw : Bool
abbrev clv (c : Cl) : Value := .agg #[.int .i64 c.wt, .int .i64 (c.s 0), .int .i64 (c.s 1), .int .i64 (c.s 2), .int .i64 (c.s 3), .bool c.aw]
def plOf (T : Nat → Int) (i : Int) (c : Cl) : Pl := ⟨(domV c.s T).2.1, (domV c.s T).2.2, c.wt, i⟩
def HG (T : Nat → Int) (G : Int → Option Cl) : Int → Option Pl := fun i => (G i).map (plOf T i)
/-- A client that may be. -/
structure COk (i : Int) (c : Cl) : Prop where
  w1 : 1 ≤ c.wt
  w2 : c.wt ≤ 1000
  sm : Sm4 c.s
  i64 : I64 i
/-- A sorter, plainly: T its total, G its clients, L the places in order. -/
structure S9 (T : Nat → Int) (G : Int → Option Cl) (L : List Pl) : Prop where
  t : Sm4 T
  ok : ∀ i c, G i = some c → COk i c
  sl : SL (JH (HG T G)) plo L
  mem : ∀ p, p ∈ L ↔ ∃ c, G p.i = some c ∧ c.aw = true ∧ p = plOf T p.i c
theorem plo_eq {a b : Pl} {H : Int → Option Pl} (ha : JH H a) (hb : JH H b) (h : a.i = b.i) : a = b := by
  have h1 := ha.2; have h2 := hb.2
  rw [h, h2] at h1
  exact (Option.some.inj h1).symm
theorem mem_insL' {o : Pl → Pl → Int} {k x : Pl} : ∀ {L : List Pl}, x ∈ L → x ∈ insL o k L
  | p :: t, h => by
    simp only [insL]
    split
    · exact List.mem_cons_of_mem _ h
    · split
      · exact h
      · rcases List.mem_cons.1 h with rfl | h
        · simp
        · exact List.mem_cons_of_mem _ (mem_insL' h)
theorem insL_mem' {o : Pl → Pl → Int} {k x : Pl} : ∀ {L : List Pl}, x ∈ insL o k L → x = k ∨ x ∈ L
  | [], h => by simp [insL] at h; exact .inl h
  | p :: t, h => by
    simp only [insL] at h
    split at h
    · rcases List.mem_cons.1 h with rfl | h
      · exact .inl rfl
      · exact .inr h
    · split at h
      · exact .inr h
      · rcases List.mem_cons.1 h with rfl | h
        · simp
        · rcases insL_mem' h with rfl | h
          · exact .inl rfl
          · exact .inr (List.mem_cons_of_mem _ h)
theorem insL_in {J : Pl → Prop} {o : Pl → Pl → Int} (O : OA J o) {k : Pl} (hk : J k) : ∀ {L : List Pl}, SL J o L → k ∈ insL o k L
  | [], _ => by simp [insL]
  | p :: t, h => by
    simp only [insL]
    split
    · simp
    · split
      · rename_i hz
        have := (O.zero k p hk (h.1 p (by simp))).1 hz
        simp [this]
      · exact List.mem_cons_of_mem _ (insL_in O hk h.tail)
theorem nodup_le : ∀ {A B : List Int}, A.Nodup → (∀ x ∈ A, x ∈ B) → A.length ≤ B.length
  | [], _, _, _ => by simp
  | a :: A, B, h, hs => by
    have ha := hs a (by simp)
    have h1 := List.nodup_cons.1 h
    have := nodup_le (B := B.erase a) h1.2 fun x hx => (List.mem_erase_of_ne (show x ≠ a from fun e => h1.1 (e ▸ hx))).2 (hs x (by simp [hx]))
    rw [List.length_erase_of_mem ha] at this
    have := List.length_pos_of_mem ha
    simp; omega
/-- At most n clients. -/
def Few (G : Int → Option Cl) (n : Nat) : Prop := ∃ S : List Int, (∀ i, (G i).isSome = true → i ∈ S) ∧ S.length ≤ n
section
variable {T : Nat → Int} {G : Int → Option Cl} {L : List Pl} {i : Int} {c : Cl}
theorem S9.jh (h : S9 T G L) (hg : G i = some c) : JH (HG T G) (plOf T i c) := by
  have := h.ok i c hg
  exact ⟨domV_srt this.sm h.t this.w1 this.w2, by simp [HG, plOf, hg]⟩
theorem S9.inj (h : S9 T G L) {p q : Pl} (hp : p ∈ L) (hq : q ∈ L) (e : p.i = q.i) : p = q := plo_eq (h.sl.1 p hp) (h.sl.1 q hq) e
theorem S9.ids (h : S9 T G L) : (L.map (·.i)).Nodup := by
  rw [List.Nodup, List.pairwise_map]
  exact h.sl.2.imp_of_mem fun {a b} ha hb hab e => by
    have := h.inj ha hb e
    subst this
    have := (OA_JH (HG T G)).zero a a (h.sl.1 a ha) (h.sl.1 a ha)
    have := this.2 rfl
    omega
theorem S9.few (h : S9 T G L) {n : Nat} (hf : Few G n) : L.length ≤ n := by
  obtain ⟨S, hS, hn⟩ := hf
  have h1 : (L.map (·.i)).length ≤ S.length := nodup_le h.ids fun x hx => by
    obtain ⟨p, hp, rfl⟩ := List.mem_map.1 hx
    obtain ⟨c, hc, _⟩ := (h.mem p).1 hp
    exact hS _ (by simp [hc])
  simp at h1; omega
theorem Few.upd {n : Nat} (h : Few G n) (i : Int) (v : Option Cl) : Few (upd G i v) (n + 1) := by
  obtain ⟨S, hS, hn⟩ := h
  refine ⟨i :: S, fun j hj => ?_, by simp; omega⟩
  by_cases e : j = i
  · simp [e]
  · simp only [Proofs.YtgfjmafdfbghnaaGreat.upd, if_neg e] at hj
    simp [hS j hj]
theorem Few.out {n : Nat} (h : Few G n) (i : Int) : Few (Proofs.YtgfjmafdfbghnaaGreat.upd G i none) n := by
  obtain ⟨S, hS, hn⟩ := h
  refine ⟨S, fun j hj => ?_, hn⟩
  by_cases e : j = i
  · simp [Proofs.YtgfjmafdfbghnaaGreat.upd, e] at hj
  · simp only [Proofs.YtgfjmafdfbghnaaGreat.upd, if_neg e] at hj
    exact hS j hj
theorem Few.here {n : Nat} (h : Few G n) {i : Int} (hg : (G i).isSome = true) (v : Option Cl) : Few (Proofs.YtgfjmafdfbghnaaGreat.upd G i v) n := by
  obtain ⟨S, hS, hn⟩ := h
  refine ⟨S, fun j hj => ?_, hn⟩
  by_cases e : j = i
  · exact hS j (e ▸ hg)
  · simp only [Proofs.YtgfjmafdfbghnaaGreat.upd, if_neg e] at hj
    exact hS j hj
theorem upd_ne {G : Int → Option Cl} {i j : Int} {v : Option Cl} (h : j ≠ i) : upd G i v j = G j := by simp [upd, h]
theorem upd_at {G : Int → Option Cl} {i : Int} {v : Option Cl} : upd G i v i = v := by simp [upd]
theorem upd_upd {G : Int → Option Cl} {i : Int} {u v : Option Cl} : upd (upd G i u) i v = upd G i v := by funext j; unfold upd; split <;> rfl
theorem upd_none {G : Int → Option Cl} {i : Int} (h : G i = none) : upd G i none = G := by funext j; unfold upd; split <;> simp_all
theorem S9.del (h : S9 T G L) (hg : G i = some c) : S9 T (upd G i none) (delL (plOf T i c) L) where
  t := h.t
  ok := fun j d hj => by
    by_cases e : j = i
    · subst e; rw [upd_at] at hj; cases hj
    · rw [upd_ne e] at hj; exact h.ok j d hj
  sl := by
    have hd : SL (JH (HG T G)) plo (delL (plOf T i c) L) := h.sl.delL
    refine ⟨fun p hp => ?_, hd.2⟩
    have hm := List.mem_filter.1 hp
    have hj := h.sl.1 p hm.1
    refine ⟨hj.1, ?_⟩
    have hne : p.i ≠ i := fun e => by
      have := plo_eq hj (h.jh hg) e
      simp [this] at hm
    have := hj.2
    unfold HG at this ⊢
    rw [upd_ne hne]; exact this
  mem := fun p => by
    unfold delL
    rw [List.mem_filter, h.mem p]
    by_cases e : p.i = i
    · rw [e, upd_at, hg]
      constructor
      · rintro ⟨⟨c', h1, h2, h3⟩, h4⟩
        cases h1
        simp [h3] at h4
      · rintro ⟨c', h1, _⟩; cases h1
    · rw [upd_ne e]
      constructor
      · exact fun h1 => h1.1
      · exact fun h1 => ⟨h1, by simp; intro e'; exact e (by rw [e']; rfl)⟩
theorem S9.sl_more (h : S9 T G L) (hg : G i = none) (c : Cl) : SL (JH (HG T (upd G i (some c)))) plo L := by
  refine ⟨fun p hp => ?_, h.sl.2⟩
  have hj := h.sl.1 p hp
  refine ⟨hj.1, ?_⟩
  have hne : p.i ≠ i := fun e => by
    obtain ⟨c, h1, _⟩ := (h.mem p).1 hp
    rw [e, hg] at h1; cases h1
  have := hj.2
  unfold HG at this ⊢
  rw [upd_ne hne]; exact this
theorem S9.put (h : S9 T G L) (hg : G i = none) (hc : COk i c) : S9 T (upd G i (some c)) (if c.aw then insL plo (plOf T i c) L else L) := by
  have ok : ∀ j d, upd G i (some c) j = some d → COk j d := fun j d hj => by
    by_cases e : j = i
    · subst e; rw [upd_at] at hj; cases hj; exact hc
    · rw [upd_ne e] at hj; exact h.ok j d hj
  have hsl := h.sl_more hg c
  have hJ : JH (HG T (upd G i (some c))) (plOf T i c) := ⟨domV_srt hc.sm h.t hc.w1 hc.w2, by simp [HG, plOf, upd_at]⟩
  have O := OA_JH (HG T (upd G i (some c)))
  cases ha : c.aw with
  | false =>
    refine ⟨h.t, ok, by simpa using hsl, fun p => ?_⟩
    simp only [Bool.false_eq_true, if_false]
    rw [h.mem p]
    by_cases e : p.i = i
    · rw [e, upd_at, hg]
      constructor
      · rintro ⟨c', h1, _⟩; cases h1
      · rintro ⟨c', h1, h2, _⟩; cases h1; rw [ha] at h2; cases h2
    · rw [upd_ne e]
  | true =>
    refine ⟨h.t, ok, by simpa using SL.insL O hsl hJ, fun p => ?_⟩
    simp only [if_true]
    by_cases hp : p ∈ L
    · have hm : p ∈ insL plo (plOf T i c) L := mem_insL' hp
      simp only [hm, true_iff]
      have hne : p.i ≠ i := fun e => by
        obtain ⟨c, h1, _⟩ := (h.mem p).1 hp
        rw [e, hg] at h1; cases h1
      rw [upd_ne hne]
      exact (h.mem p).1 hp
    · constructor
      · intro hm
        rcases insL_mem' hm with rfl | hm
        · exact ⟨c, upd_at, ha, rfl⟩
        · exact absurd hm hp
      · rintro ⟨c', h1, h2, h3⟩
        by_cases e : p.i = i
        · rw [e, upd_at] at h1; cases h1
          rw [e] at h3
          rw [h3]
          exact insL_in O hJ hsl
        · rw [upd_ne e] at h1
          exact absurd ((h.mem p).2 ⟨c', h1, h2, h3⟩) hp
end
end
section
open Go.RowKit
attribute [local go_sem] ext_cell ext_frozen extC_cell extC_frozen Mix.calmUpon Mix.mUpon
/-- The sorter's own block. -/
def SO (w : World) (sp : Nat) (T : Nat → Int) (M tp : Nat) : Prop := w.heap[sp]? = some (.cells #[.int .i64 (T 0), .int .i64 (T 1), .int .i64 (T 2), .int .i64 (T 3), .map (some M), .pointer (some ⟨tp, 0, none⟩)] 107 (0, 0))
/-- A variable that holds a client. -/
def CK (w : World) (b : Nat) (c : Cl) : Prop := w.heap[b]? = some (.cells #[.int .i64 c.wt, .int .i64 (c.s 0), .int .i64 (c.s 1), .int .i64 (c.s 2), .int .i64 (c.s 3), .bool c.aw] 119 (0, 0))
section
variable {w w' : World} {sp M tp b : Nat} {T : Nat → Int} {c : Cl}
theorem SO.lt (h : SO w sp T M tp) : sp < w.heap.size := (Array.getElem?_eq_some_iff.1 h).1
theorem SO.below (h : SO w sp T M tp) (hb : Below w.heap.size w w') : SO w' sp T M tp := (hb.block _ h.lt).trans h
theorem SO.cells (h : SO w sp T M tp) : w.cell? ⟨sp, 0, none⟩ = some (.int .i64 (T 0)) ∧ w.cell? ⟨sp, 1, none⟩ = some (.int .i64 (T 1)) ∧ w.cell? ⟨sp, 2, none⟩ = some (.int .i64 (T 2)) ∧ w.cell? ⟨sp, 3, none⟩ = some (.int .i64 (T 3)) ∧ w.cell? ⟨sp, 4, none⟩ = some (.map (some M)) ∧ w.cell? ⟨sp, 5, none⟩ = some (.pointer (some ⟨tp, 0, none⟩)) := by
  unfold SO at h; simp [World.cell?, h]
theorem SO.fz (h : SO w sp T M tp) (o : Nat) : w.frozen? ⟨sp, o, none⟩ = false := by unfold SO at h; simp [World.frozen?, h]
theorem CK.made (w : World) (c : Cl) : CK (w.alloc (.cells #[.int .i64 c.wt, .int .i64 (c.s 0), .int .i64 (c.s 1), .int .i64 (c.s 2), .int .i64 (c.s 3), .bool c.aw] 119)) w.heap.size c := heap_alloc_new w _
theorem CK.lt (h : CK w b c) : b < w.heap.size := (Array.getElem?_eq_some_iff.1 h).1
theorem CK.below (h : CK w b c) (hb : Below w.heap.size w w') : CK w' b c := (hb.block _ h.lt).trans h
theorem CK.cells (h : CK w b c) : w.cell? ⟨b, 0, none⟩ = some (.int .i64 c.wt) ∧ w.cell? ⟨b, 1, none⟩ = some (.int .i64 (c.s 0)) ∧ w.cell? ⟨b, 2, none⟩ = some (.int .i64 (c.s 1)) ∧ w.cell? ⟨b, 3, none⟩ = some (.int .i64 (c.s 2)) ∧ w.cell? ⟨b, 4, none⟩ = some (.int .i64 (c.s 3)) ∧ w.cell? ⟨b, 5, none⟩ = some (.bool c.aw) := by
  unfold CK at h; simp [World.cell?, h]
theorem CK.fz (h : CK w b c) (o : Nat) : w.frozen? ⟨b, o, none⟩ = false := by unfold CK at h; simp [World.frozen?, h]
end
theorem res_pk1 {fn : Func} {tmps : Array Value} {w : World} {p b : Nat} {x : Pl} (h : fn.results = #[.cell p 103]) (hp : tmps.getD p undef = .pointer (some ⟨b, 0, none⟩)) (hb : PK w b x) :
    (results fn tmps).run Tryz.prog w = .ok (plv x) w := by
  simp only [results, h]
  have hp' : tmps[p]?.getD undef = .pointer (some ⟨b, 0, none⟩) := by simpa [Array.getD_eq_getD_getElem?] using hp
  simp [Sem.run_bind, Result.andThen, hp', asAddr, hb.load]
set_option maxRecDepth 100000 in
set_option maxHeartbeats 1000000 in
theorem splace {w0 : World} {sp M tp : Nat} {T : Nat → Int} (h0 : SO w0 sp T M tp) (i : Int) (c : Cl) : Calls Tryz.prog 62 #[ptr sp, .int .i64 i, clv c] w0 fun e w' => e = .returned (plv (plOf T i c)) ∧ Below w0.heap.size w0 w' := by
  obtain ⟨w, hw⟩ : ∃ w, w = (w0.alloc (.cells #[.int .i64 c.wt, .int .i64 (c.s 0), .int .i64 (c.s 1), .int .i64 (c.s 2), .int .i64 (c.s 3), .bool c.aw] 119)).alloc (.cells #[.int .i64 0, .int .i64 0, .int .i64 0, .int .i64 0] 103) := ⟨_, rfl⟩
  obtain ⟨cb, hcb⟩ : ∃ b, b = w0.heap.size := ⟨_, rfl⟩
  obtain ⟨rb, hrb⟩ : ∃ b, b = cb + 1 := ⟨_, rfl⟩
  have hb0 : Below w0.heap.size w0 w := by rw [hw]; exact ba (ba (Below.refl _ _) _) _
  have hck : CK w cb c := by rw [hw, hcb]; exact (CK.made w0 c).below (ba (Below.refl _ _) _)
  have hpk : PK w rb plz := by
    have := PK.made (w0.alloc (.cells #[.int .i64 c.wt, .int .i64 (c.s 0), .int .i64 (c.s 1), .int .i64 (c.s 2), .int .i64 (c.s 3), .bool c.aw] 119)) plz
    rw [show (w0.alloc (.cells #[.int .i64 c.wt, .int .i64 (c.s 0), .int .i64 (c.s 1), .int .i64 (c.s 2), .int .i64 (c.s 3), .bool c.aw] 119)).heap.size = rb by simp [hrb, hcb]] at this
    rw [hw]; exact this
  have h := h0.below hb0
  have HB0 := Lib.hid hb0; have HCK := Lib.hid hck; have HPK := Lib.hid hpk; have HRQ := Lib.hid hrb; have HCQ := Lib.hid hcb
  have HS := Lib.hid (shareof_any c.s T c.wt)
  obtain ⟨pn, hpn⟩ : ∃ x, (domV c.s T).2.1 = x := ⟨_, rfl⟩
  obtain ⟨pd, hpd⟩ : ∃ x, (domV c.s T).2.2 = x := ⟨_, rfl⟩
  rw [show plOf T i c = ⟨pn, pd, c.wt, i⟩ by rw [← hpn, ← hpd]; rfl]
  rw [hpn, hpd] at HS
  obtain ⟨x0, x1, x2, x3, x4, x5⟩ := h.cells
  have xs := h.lt
  obtain ⟨c0, c1, c2, c3, c4, c5⟩ := hck.cells
  have cs := hck.lt
  have nf : ∀ q, ¬ (fun _ : Nat => False) q := fun _ h => h
  clear h0 h hb0 hck hpk hpn hpd
  go_enter Tryz.func62, Tryz.ntmps62
  go_upto_region 1 with (fail)
  rw [← hcb, ← hrb, ← hw]
  clear hw hcb hrb
  refine Mix.regionL (fun _ => False) (by kernel_rfl) ?_
  intro w2 hb2
  refine Mix.take_exL _ _ 0 rfl (by kernel_rfl) (by kernel_rfl) (by kernel_rfl) (by kernel_rfl) (by kernel_rfl) (by kernel_rfl) (fun K hK => ?_)
  go_simp
  first | (refine hK _ ?_; clear hK K) | (apply Exists.intro; refine ⟨fun x => ?_, hK _ ?_⟩; (fail); clear hK K)
  refine Mix.take_exL _ _ 1 rfl (by kernel_rfl) (by kernel_rfl) (by kernel_rfl) (by kernel_rfl) (by kernel_rfl) (by kernel_rfl) (fun K hK => ?_)
  go_simp
  first | (refine hK _ ?_; clear hK K) | (apply Exists.intro; refine ⟨fun x => ?_, hK _ ?_⟩; (fail); clear hK K)
  refine Mix.take_exL _ _ 2 rfl (by kernel_rfl) (by kernel_rfl) (by kernel_rfl) (by kernel_rfl) (by kernel_rfl) (by kernel_rfl) (fun K hK => ?_)
  go_simp
  first | (refine hK _ ?_; clear hK K) | (apply Exists.intro; refine ⟨fun x => ?_, hK _ ?_⟩; (fail); clear hK K)
  refine Mix.take_exL _ _ 3 rfl (by kernel_rfl) (by kernel_rfl) (by kernel_rfl) (by kernel_rfl) (by kernel_rfl) (by kernel_rfl) (fun K hK => ?_)
  go_simp
  first | (refine hK _ ?_; clear hK K) | (apply Exists.intro; refine ⟨fun x => ?_, hK _ ?_⟩; (fail); clear hK K)
  refine Mix.take_exL _ _ 4 rfl (by kernel_rfl) (by kernel_rfl) (by kernel_rfl) (by kernel_rfl) (by kernel_rfl) (by kernel_rfl) (fun K hK => ?_)
  go_simp
  first | (refine hK _ ?_; clear hK K) | (apply Exists.intro; refine ⟨fun x => ?_, hK _ ?_⟩; (fail); clear hK K)
  refine Mix.take_exL _ _ 5 rfl (by kernel_rfl) (by kernel_rfl) (by kernel_rfl) (by kernel_rfl) (by kernel_rfl) (by kernel_rfl) (fun K hK => ?_)
  go_simp
  first | (refine hK _ ?_; clear hK K) | (apply Exists.intro; refine ⟨fun x => ?_, hK _ ?_⟩; (fail); clear hK K)
  refine Mix.take_exL _ _ 6 rfl (by kernel_rfl) (by kernel_rfl) (by kernel_rfl) (by kernel_rfl) (by kernel_rfl) (by kernel_rfl) (fun K hK => ?_)
  go_simp
  first | (refine hK _ ?_; clear hK K) | (apply Exists.intro; refine ⟨fun x => ?_, hK _ ?_⟩; (fail); clear hK K)
  refine Mix.take_exL _ _ 7 rfl (by kernel_rfl) (by kernel_rfl) (by kernel_rfl) (by kernel_rfl) (by kernel_rfl) (by kernel_rfl) (fun K hK => ?_)
  go_simp
  first | (refine hK _ ?_; clear hK K) | (apply Exists.intro; refine ⟨fun x => ?_, hK _ ?_⟩; (fail); clear hK K)
  refine Mix.take_exL _ _ 8 rfl (by kernel_rfl) (by kernel_rfl) (by kernel_rfl) (by kernel_rfl) (by kernel_rfl) (by kernel_rfl) (fun K hK => ?_)
  go_simp
  first | (refine hK _ ?_; clear hK K) | (apply Exists.intro; refine ⟨fun x => ?_, hK _ ?_⟩; (exact HS.out _); clear hK K)
  refine Mix.take_exL _ _ 9 rfl (by kernel_rfl) (by kernel_rfl) (by kernel_rfl) (by kernel_rfl) (by kernel_rfl) (by kernel_rfl) (fun K hK => ?_)
  go_simp
  first | (refine hK _ ?_; clear hK K) | (apply Exists.intro; refine ⟨fun x => ?_, hK _ ?_⟩; (fail); clear hK K)
  refine Mix.take_exL _ _ 10 rfl (by kernel_rfl) (by kernel_rfl) (by kernel_rfl) (by kernel_rfl) (by kernel_rfl) (by kernel_rfl) (fun K hK => ?_)
  go_simp
  first | (refine hK _ ?_; clear hK K) | (apply Exists.intro; refine ⟨fun x => ?_, hK _ ?_⟩; (fail); clear hK K)
  refine Mix.allL (rs := [11]) (by kernel_rfl) (by simp) (.of_below _ hb2) (by kernel_rfl) ?_
  intro i3 hi3 w3 hb3 hC3
  simp only [List.mem_cons, List.not_mem_nil, or_false] at hi3
  subst hi3
  have HB3 := Lib.hid (bt hb2 hb3)
  clear hC3 hb2 hb3
  have hkq := HPK.out.below HB3.out
  have kf0 := hkq.fz 0; have kf1 := hkq.fz 1; have kf2 := hkq.fz 2; have kf3 := hkq.fz 3
  obtain ⟨k0, k1, k2, k3⟩ := hkq.cells
  have kl := hkq.lt
  have HK3 := Lib.hid (hkq.set4 ⟨pn, pd, c.wt, i⟩)
  have HC3 := Lib.hid (pk_chg w3 rb (.int .i64 pn) (.int .i64 pd) (.int .i64 c.wt) (.int .i64 i))
  clear hkq
  refine Mix.op rfl (by kernel_rfl) ?_
  go_simp
  refine Mix.doneL (by kernel_rfl) (by kernel_rfl) ?_
  intro w4 hb4
  have HK4 := Lib.hid (HK3.out.below hb4); have HB4 := Lib.hid hb4
  clear kf0 kf1 kf2 kf3 k0 k1 k2 k3 kl x0 x1 x2 x3 x4 x5 xs c0 c1 c2 c3 c4 c5 cs nf hb4
  go_wp2
  refine bodyPost_ret (res_pk1 Tryz.results62 rfl HK4.out) rfl ?_
  refine ⟨rfl, ?_⟩
  have h3 := HB0.out.trans (HB3.out.mono HB0.out.size)
  have h4 := h3.trans (HC3.out.below (by have := h3.size; omega) fun q e => by have e : q = rb := e; have := HRQ.out; have := HCQ.out; omega)
  exact h4.trans (HB4.out.mono h4.size)
end
section
open Go.RowKit Go.Maps
attribute [local go_sem] ext_cell ext_frozen extC_cell extC_frozen Mix.calmUpon Mix.mUpon
def clz : Cl := ⟨0, fun _ => 0, false⟩
/-- The sorter in memory. -/
structure SM (w : World) (sp M tp : Nat) (T : Nat → Int) (G : Int → Option Cl) (L : List Pl) : Prop where
  o : SO w sp T M tp
  m : MapF K64 w M G (fun c => clv c)
  t : TU tp fcmp #[] w L
/-- The blocks of a sorter. -/
abbrev SF (sp M tp : Nat) : Nat → Prop := fun b => b = sp ∨ b = M ∨ b = tp
section
variable {w w' : World} {sp M tp b : Nat} {T : Nat → Int} {G : Int → Option Cl} {L : List Pl} {c : Cl} {i : Int}
theorem CK.set6 (h : CK w b c) (d : Cl) : CK ((((((w.setCell ⟨b, 0, none⟩ (.int .i64 d.wt)).setCell ⟨b, 1, none⟩ (.int .i64 (d.s 0))).setCell ⟨b, 2, none⟩ (.int .i64 (d.s 1))).setCell ⟨b, 3, none⟩ (.int .i64 (d.s 2))).setCell ⟨b, 4, none⟩ (.int .i64 (d.s 3))).setCell ⟨b, 5, none⟩ (.bool d.aw)) b d := heap_setCell_at _ (heap_setCell_at _ (heap_setCell_at _ (heap_setCell_at _ (heap_setCell_at _ (heap_setCell_at _ h)))))
theorem ck_below (w : World) (b : Nat) (u0 u1 u2 u3 u4 u5 : Value) : Below b w ((((((w.setCell ⟨b, 0, none⟩ u0).setCell ⟨b, 1, none⟩ u1).setCell ⟨b, 2, none⟩ u2).setCell ⟨b, 3, none⟩ u3).setCell ⟨b, 4, none⟩ u4).setCell ⟨b, 5, none⟩ u5) :=
  bs (p := ⟨b, 5, none⟩) (bs (p := ⟨b, 4, none⟩) (bs (p := ⟨b, 3, none⟩) (bs (p := ⟨b, 2, none⟩) (bs (p := ⟨b, 1, none⟩) (bs (p := ⟨b, 0, none⟩) (Below.refl b w) (Nat.le_refl b) _) (Nat.le_refl b) _) (Nat.le_refl b) _) (Nat.le_refl b) _) (Nat.le_refl b) _) (Nat.le_refl b) _
theorem CK.load (h : CK w b c) : (loadVar 119 ⟨b, 0, none⟩).run Tryz.prog w = .ok (clv c) w := by
  obtain ⟨h0, h1, h2, h3, h4, h5⟩ := h.cells
  have hs := h.lt
  simp [go_sem, h0, h1, h2, h3, h4, h5, hs]
theorem res_ck {fn : Func} {tmps : Array Value} {p q : Nat} {e : Value} (h : fn.results = #[.cell p 119, .tmp q]) (hp : tmps.getD p undef = .pointer (some ⟨b, 0, none⟩)) (hq : tmps.getD q undef = e) (hb : CK w b c) :
    (results fn tmps).run Tryz.prog w = .ok (.tuple #[clv c, e]) w := by
  rw [results_cell_tmp h, hp, hq]
  simp [asAddr, Result.andThen, hb.load]
theorem SM.below (h : SM w sp M tp T G L) (hb : Below w.heap.size w w') : SM w' sp M tp T G L := ⟨h.o.below hb, h.m.chg (.of_below (fun _ => False) hb) id, h.t.below hb⟩
theorem SM.look (h : SM w sp M tp T G L) (hi : I64 i) (cm : Bool) : (Instr.lookup 99 (.map (some M)) (.int .i64 i) cm).run Tryz.prog w =
    .ok (if cm then .tuple #[((G i).map fun c => clv c).getD (clv clz), .bool (G i).isSome] else ((G i).map fun c => clv c).getD (clv clz)) w := by
  have hz : (zeroValue 119).run Tryz.prog w = .ok (clv clz) w := Tryz.zeroValue119 w
  exact h.m.look key64 Tryz.underlying99 hz (x := i) hi cm
theorem smade (h : SO w sp T M tp) : Calls Tryz.prog 71 #[ptr sp] w fun e w' => e = .returned (.bool true) ∧ w' = w := by
  have hl := h.lt
  obtain ⟨x0, x1, x2, x3, x4, x5⟩ := h.cells
  have hmn := fun w : World => Go.run_neq_map_nil (P := Tryz.prog) w 99 _ _ (some M) Tryz.underlying99
  clear h
  go_enter Tryz.func71, Tryz.ntmps71
  go_wp2
  go_ret
  exact ⟨rfl, rfl⟩
/-- What find and get answer. -/
def sfA (G : Int → Option Cl) (i : Int) : Value := match G i with | some c => .tuple #[clv c, .int .i64 0] | none => .tuple #[clv clz, .int .i64 43]
def sgA (G : Int → Option Cl) (i : Int) : Value := match G i with | some c => .tuple #[clv c, .bool true] | none => .tuple #[clv clz, .bool false]
set_option maxRecDepth 100000 in
set_option maxHeartbeats 1000000 in
theorem sget (h : SM w sp M tp T G L) (hi : I64 i) : Calls Tryz.prog 61 #[ptr sp, .int .i64 i] w fun e w' => e = .returned (sgA G i) ∧ Below w.heap.size w w' := by
  rw [show sgA G i = .tuple #[((G i).map fun c => clv c).getD (clv clz), .bool (G i).isSome] by unfold sgA; cases G i <;> rfl]
  have hz : CK (w.alloc (.cells #[.int .i64 0, .int .i64 0, .int .i64 0, .int .i64 0, .int .i64 0, .bool false] 119)) w.heap.size clz := CK.made w clz
  have hb := ba (Below.refl w.heap.size w) (.cells #[.int .i64 0, .int .i64 0, .int .i64 0, .int .i64 0, .int .i64 0, .bool false] 119)
  have H := Lib.hid (h.below hb); have HZ := Lib.hid hz; have HB := Lib.hid hb; have HI := Lib.hid hi
  clear h hz hb hi
  obtain ⟨d, r, hd, hr, hdz⟩ : ∃ d r, ((G i).map fun c => clv c).getD (clv clz) = clv d ∧ (G i).isSome = r ∧ (r = false → d = clz) := by
    cases G i with
    | none => exact ⟨clz, false, rfl, rfl, fun _ => rfl⟩
    | some c => exact ⟨c, true, rfl, rfl, fun h => by cases h⟩
  have HDZ := Lib.hid hdz
  clear hdz
  have HD := Lib.hid hd; have HR := Lib.hid hr
  try rw [hr]
  rw [hd]
  clear hd hr
  go_enter Tryz.func61, Tryz.ntmps61
  go_upto_region 1 with (fail)
  generalize w.alloc (.cells #[.int .i64 0, .int .i64 0, .int .i64 0, .int .i64 0, .int .i64 0, .bool false] 119) = w1 at *
  obtain ⟨b, hbq⟩ : ∃ b, b = w.heap.size := ⟨_, rfl⟩
  rw [← hbq] at HZ ⊢
  have HBQ := Lib.hid hbq
  clear hbq
  go_wp2_with fail
  refine (smade H.out.o).mono ?_
  rintro e w2 ⟨rfl, hw2⟩
  rw [hw2]
  clear hw2 w2
  have hlook := H.out.look HI.out true
  rw [HD.out, HR.out] at hlook
  replace hlook := hlook.trans (show _ = .ok (.tuple #[clv d, .bool r]) w1 from rfl)
  obtain ⟨x0, x1, x2, x3, x4, x5⟩ := H.out.o.cells
  have xs := H.out.o.lt
  obtain ⟨z0, z1, z2, z3, z4, z5⟩ := HZ.out.cells
  have y0 := HZ.out.fz 0; have y1 := HZ.out.fz 1; have y2 := HZ.out.fz 2; have y3 := HZ.out.fz 3; have y4 := HZ.out.fz 4; have y5 := HZ.out.fz 5
  have zl := HZ.out.lt
  have HS2 := Lib.hid (HZ.out.set6 d)
  have HC2 := Lib.hid (ck_below w1 b (.int .i64 (d).wt) (.int .i64 ((d).s 0)) (.int .i64 ((d).s 1)) (.int .i64 ((d).s 2)) (.int .i64 ((d).s 3)) (.bool (d).aw))
  have HL := Lib.hid (show b < w1.heap.size from zl)
  go_wp2
  refine bodyPost_ret (res_ck Tryz.results61 rfl rfl (HS2.out.below (ba (Below.refl _ _) _))) rfl ?_
  refine ⟨rfl, HB.out.trans (?_ : Below w.heap.size w1 _)⟩
  rw [← HBQ.out]
  exact HC2.out.alloc (by have := HL.out; simp; omega) _
set_option maxRecDepth 100000 in
set_option maxHeartbeats 1000000 in
theorem sfind (h : SM w sp M tp T G L) (hi : I64 i) : Calls Tryz.prog 79 #[ptr sp, .int .i64 i] w fun e w' => e = .returned (sfA G i) ∧ Below w.heap.size w w' := by
  rw [show sfA G i = .tuple #[((G i).map fun c => clv c).getD (clv clz), .int .i64 (if (G i).isSome then 0 else 43)] by unfold sfA; cases G i <;> rfl]
  obtain ⟨en, hen⟩ : ∃ en : Int, en = (if (G i).isSome then 0 else 43) := ⟨_, rfl⟩
  rw [← hen]
  have HEN := Lib.hid hen
  clear hen
  have hz : CK (w.alloc (.cells #[.int .i64 0, .int .i64 0, .int .i64 0, .int .i64 0, .int .i64 0, .bool false] 119)) w.heap.size clz := CK.made w clz
  have hb := ba (Below.refl w.heap.size w) (.cells #[.int .i64 0, .int .i64 0, .int .i64 0, .int .i64 0, .int .i64 0, .bool false] 119)
  have H := Lib.hid (h.below hb); have HZ := Lib.hid hz; have HB := Lib.hid hb; have HI := Lib.hid hi
  clear h hz hb hi
  obtain ⟨d, r, hd, hr, hdz⟩ : ∃ d r, ((G i).map fun c => clv c).getD (clv clz) = clv d ∧ (G i).isSome = r ∧ (r = false → d = clz) := by
    cases G i with
    | none => exact ⟨clz, false, rfl, rfl, fun _ => rfl⟩
    | some c => exact ⟨c, true, rfl, rfl, fun h => by cases h⟩
  have HDZ := Lib.hid hdz
  clear hdz
  have HD := Lib.hid hd; have HR := Lib.hid hr
  try rw [hr]
  rw [hd]
  clear hd hr
  go_enter Tryz.func79, Tryz.ntmps79
  go_upto_region 1 with (fail)
  generalize w.alloc (.cells #[.int .i64 0, .int .i64 0, .int .i64 0, .int .i64 0, .int .i64 0, .bool false] 119) = w1 at *
  obtain ⟨b, hbq⟩ : ∃ b, b = w.heap.size := ⟨_, rfl⟩
  rw [← hbq] at HZ ⊢
  have HBQ := Lib.hid hbq
  clear hbq
  go_wp2_with fail
  refine (smade H.out.o).mono ?_
  rintro e w2 ⟨rfl, hw2⟩
  rw [hw2]
  clear hw2 w2
  have hlook := H.out.look HI.out true
  rw [HD.out, HR.out] at hlook
  replace hlook := hlook.trans (show _ = .ok (.tuple #[clv d, .bool r]) w1 from rfl)
  obtain ⟨x0, x1, x2, x3, x4, x5⟩ := H.out.o.cells
  have xs := H.out.o.lt
  rw [HR.out] at HEN
  cases r with
  | true =>
    clear HDZ
    go_upto_region 4 with (fail)
    have HD6 := Lib.hid (show CK (w1.alloc (.cells #[.int .i64 d.wt, .int .i64 (d.s 0), .int .i64 (d.s 1), .int .i64 (d.s 2), .int .i64 (d.s 3), .bool d.aw] 119)) w1.heap.size d from CK.made w1 d)
    have HZ2 := Lib.hid (HZ.out.below (ba (Below.refl w1.heap.size w1) (.cells #[.int .i64 d.wt, .int .i64 (d.s 0), .int .i64 (d.s 1), .int .i64 (d.s 2), .int .i64 (d.s 3), .bool d.aw] 119)))
    have HB2 := Lib.hid (bt HB.out (ba (Below.refl w1.heap.size w1) (.cells #[.int .i64 d.wt, .int .i64 (d.s 0), .int .i64 (d.s 1), .int .i64 (d.s 2), .int .i64 (d.s 3), .bool d.aw] 119)))
    clear hlook x0 x1 x2 x3 x4 x5 xs
    generalize w1.alloc (.cells #[.int .i64 d.wt, .int .i64 (d.s 0), .int .i64 (d.s 1), .int .i64 (d.s 2), .int .i64 (d.s 3), .bool d.aw] 119) = w2 at *
    obtain ⟨b6, hb6⟩ : ∃ b, b = w1.heap.size := ⟨_, rfl⟩
    rw [← hb6] at HD6 ⊢
    clear hb6
    obtain ⟨z0, z1, z2, z3, z4, z5⟩ := HZ2.out.cells
    have y0 := HZ2.out.fz 0; have y1 := HZ2.out.fz 1; have y2 := HZ2.out.fz 2; have y3 := HZ2.out.fz 3; have y4 := HZ2.out.fz 4; have y5 := HZ2.out.fz 5
    have zl := HZ2.out.lt
    obtain ⟨d0, d1, d2, d3, d4, d5⟩ := HD6.out.cells
    have dl := HD6.out.lt
    have HS2 := Lib.hid (HZ2.out.set6 d)
    have HC2 := Lib.hid (ck_below w2 b (.int .i64 (d).wt) (.int .i64 ((d).s 0)) (.int .i64 ((d).s 1)) (.int .i64 ((d).s 2)) (.int .i64 ((d).s 3)) (.bool (d).aw))
    go_wp2
    refine bodyPost_ret (res_ck Tryz.results79 rfl rfl HS2.out) rfl ?_
    refine ⟨by rw [show en = 0 by simpa using HEN.out]; rfl, HB2.out.trans (HC2.out.mono ?_)⟩
    have := HB2.out.size; have := HBQ.out; omega
  | false =>
    have HDE := Lib.hid (HDZ.out rfl)
    clear HDZ
    go_upto_region 4 with (fail)
    have HD6 := Lib.hid (show CK (w1.alloc (.cells #[.int .i64 d.wt, .int .i64 (d.s 0), .int .i64 (d.s 1), .int .i64 (d.s 2), .int .i64 (d.s 3), .bool d.aw] 119)) w1.heap.size d from CK.made w1 d)
    have HZ2 := Lib.hid (HZ.out.below (ba (Below.refl w1.heap.size w1) (.cells #[.int .i64 d.wt, .int .i64 (d.s 0), .int .i64 (d.s 1), .int .i64 (d.s 2), .int .i64 (d.s 3), .bool d.aw] 119)))
    have HB2 := Lib.hid (bt HB.out (ba (Below.refl w1.heap.size w1) (.cells #[.int .i64 d.wt, .int .i64 (d.s 0), .int .i64 (d.s 1), .int .i64 (d.s 2), .int .i64 (d.s 3), .bool d.aw] 119)))
    clear hlook x0 x1 x2 x3 x4 x5 xs
    generalize w1.alloc (.cells #[.int .i64 d.wt, .int .i64 (d.s 0), .int .i64 (d.s 1), .int .i64 (d.s 2), .int .i64 (d.s 3), .bool d.aw] 119) = w2 at *
    obtain ⟨b6, hb6⟩ : ∃ b, b = w1.heap.size := ⟨_, rfl⟩
    rw [← hb6] at HD6 ⊢
    clear hb6
    obtain ⟨z0, z1, z2, z3, z4, z5⟩ := HZ2.out.cells
    have y0 := HZ2.out.fz 0; have y1 := HZ2.out.fz 1; have y2 := HZ2.out.fz 2; have y3 := HZ2.out.fz 3; have y4 := HZ2.out.fz 4; have y5 := HZ2.out.fz 5
    have zl := HZ2.out.lt
    have HS2 := Lib.hid (show CK ((((((w2.setCell ⟨b, 0, none⟩ (.int .i64 0)).setCell ⟨b, 1, none⟩ (.int .i64 0)).setCell ⟨b, 2, none⟩ (.int .i64 0)).setCell ⟨b, 3, none⟩ (.int .i64 0)).setCell ⟨b, 4, none⟩ (.int .i64 0)).setCell ⟨b, 5, none⟩ (.bool false)) b clz from HZ2.out.set6 clz)
    have HC2 := Lib.hid (show Below b w2 ((((((w2.setCell ⟨b, 0, none⟩ (.int .i64 0)).setCell ⟨b, 1, none⟩ (.int .i64 0)).setCell ⟨b, 2, none⟩ (.int .i64 0)).setCell ⟨b, 3, none⟩ (.int .i64 0)).setCell ⟨b, 4, none⟩ (.int .i64 0)).setCell ⟨b, 5, none⟩ (.bool false)) from ck_below w2 b _ _ _ _ _ _)
    go_wp2
    refine bodyPost_ret (res_ck Tryz.results79 rfl rfl HS2.out) rfl ?_
    refine ⟨by rw [show en = 43 by simpa using HEN.out, HDE.out]; rfl, HB2.out.trans (HC2.out.mono ?_)⟩
    have := HB2.out.size; have := HBQ.out; omega
theorem weighs_any (x : Int) : Pure Tryz.prog 72 #[.int .i64 x] (.bool (decide (1 ≤ x ∧ x ≤ 1000))) := by
  intro W
  by_cases h1 : 1 ≤ x
  · by_cases h2 : x ≤ 1000
    · have hd : decide (1 ≤ x ∧ x ≤ 1000) = true := by simp [h1, h2]
      rw [hd]
      go_enter Tryz.func72, Tryz.ntmps72
      go_wp2
      go_ret
      exact ⟨rfl, Below.refl _ _⟩
    · have hd : decide (1 ≤ x ∧ x ≤ 1000) = false := by simp [h2]
      rw [hd]
      go_enter Tryz.func72, Tryz.ntmps72
      go_wp2
      go_ret
      exact ⟨rfl, Below.refl _ _⟩
  · have hd : decide (1 ≤ x ∧ x ≤ 1000) = false := by simp [h1]
    rw [hd]
    go_enter Tryz.func72, Tryz.ntmps72
    go_wp2
    go_ret
    exact ⟨rfl, Below.refl _ _⟩
theorem sm4_holds (a : Nat → Int) : decide (HOk (fun _ => 9007199254740992) a) = decide (Sm4 a) := by
  refine decide_eq_decide.2 ⟨fun h k hk => ?_, fun h => ?_⟩
  · have h1 := sok_at h.2.1 k hk
    have h2 := hok_at h k hk
    exact ⟨h1.1, h2⟩
  · refine ⟨?_, h.ok, (h 0 (by decide)).2, (h 1 (by decide)).2, (h 2 (by decide)).2, (h 3 (by decide)).2⟩
    refine ⟨?_, ?_, ?_, ?_⟩ <;> exact ⟨by decide, by decide⟩
theorem inrange_any (a : Nat → Int) : Pure Tryz.prog 74 #[S4 a] (.bool (decide (Sm4 a))) := by
  intro w
  have hp := holds_any (fun _ => 9007199254740992) a
  rw [sm4_holds] at hp
  go_enter Tryz.func74, Tryz.ntmps74
  go_wp2_with fail
  (with_reducible refine (hp _).mono ?_)
  rintro e w1 ⟨rfl, hb1⟩
  have hs1 : w.heap.size + 1 ≤ w1.heap.size := (by have h := hb1.size; first | omega | (simp at h; omega))
  have hz1_0 : w.heap.size < w1.heap.size := (by omega)
  obtain ⟨hc1, hf1, hl1⟩ := bcell hb1
  clear hl1
  go_wp2
  go_ret
  exact ⟨rfl, bt (ba (Below.refl _ _) _) hb1⟩
end
end
end Go.Proofs.YtgfjmafdfbghnaaGreat
