/- heap: Due. -/
import Derived.Test.YtajcelmnblncaaaHeap10
namespace Go.Proofs.Ytajcelmnblncaaa
open Go.RowKit Go.Maps
attribute [local go_sem] ext_cell ext_frozen extC_cell extC_frozen Mix.calmUpon Mix.mUpon
theorem info64 : (Try.prog.info? 2).map (fun i => (i.zero, i.size, i.bytes)) = some (some (.int .i64 0), 1, 8) := by kernel_rfl
/-- A slice of numbers of the call's own. -/
abbrev Own64 (w : World) (base : Nat) (v : Value) (l : List Int) : Prop := w.ownsRow base 2 1 v l.length (l.map (Value.int .i64))
/-- 'append' of a number. -/
theorem app64 {w : World} {base : Nat} {v : Value} {l : List Int} {b : Nat} (h : Own64 w base v l) (x : Int) (h0 : w.cell? ⟨b, 0, none⟩ = some (.int .i64 x)) (hl : l.length < 1000000) (hb : base ≤ w.heap.size) :
    ∃ v' w', (Builtin.append_ #[63, 63] 63 #[v, .slice (some ⟨b, 0, none⟩) 1 1]).run Try.prog w = .ok v' w' ∧ Own64 w' base v' (l ++ [x]) ∧ w.grownBy w' v.ownBlock ∧ (v'.ownBlock = v.ownBlock ∨ v'.ownBlock = some w.heap.size) := by
  obtain ⟨i0, hi, hz0, hz1, hz2⟩ := info_parts info64
  obtain ⟨v', w', r1, r2, r3, r4⟩ := run_app (P := Try.prog) w base 63 63 2 i0 (.int .i64 0) 1 8 Try.underlying63 hi hz0 hz1 hz2 rfl (by decide) v l.length (l.map (Value.int .i64)) h ⟨b, 0, none⟩ 1 1 [.int .i64 x] rfl
    (fun j u' hj => by
      rcases j with _ | j <;> simp at hj
      · subst hj; simpa [Addr.add] using h0) (fun u' hu => by simp at hu; subst hu; rfl) (by unfold maxLen; omega) (by omega) hb
  refine ⟨v', w', r1, ?_, r3, r4⟩
  unfold Own64
  rw [List.length_append, List.map_append]
  exact r2
/-- What Peek told. -/
def PK (L : List It) (k t : Int) (ok : Bool) : Prop := (L = [] ∧ ok = false) ∨ ∃ p r, L = p :: r ∧ k = p.1 ∧ t = p.2 ∧ ok = true
/-- How many items a heap's slice has. -/
def hlen (w : World) (hp : Nat) : Nat := match w.cell? ⟨hp, 0, none⟩ with | some (.slice _ n _) => n | _ => 0
theorem HL.hlen {w : World} {hp : Nat} {F : Nat → Prop} {l : List It} {s : Int} (h : HL w hp F l s) : hlen w hp = l.length := by
  obtain ⟨_, M, v, g, f, h1, _, _, _, _⟩ := h
  obtain ⟨a, cap, rfl, _⟩ := h1.form
  unfold Proofs.Ytajcelmnblncaaa.hlen
  rw [h1.c0]
/-- Where Due stands. -/
structure DS (w : World) (hp : Nat) (F : Nat → Prop) (l : List It) (s : Int) (now : Int) (wr : World) (v : Value) (D L : List It) (F' : Nat → Prop) (c : Nat) : Prop where
  hl : HL wr hp F' L (s + c)
  chg : Chg F w wr
  own : Own64 wr w.heap.size v (D.map (·.1))
  dis : ∀ b, v.ownBlock = some b → ¬ F' b
  new : ∀ k, F' k → F k ∨ w.heap.size ≤ k
  up : lupto l now = D ++ lupto L now
  fr : lfrom l now = lfrom L now
  len : D.length + L.length = l.length
  cost : c ≤ lg l.length * D.length
theorem lg_mono {a b : Nat} (h : a ≤ b) : lg a ≤ lg b := by
  unfold lg
  by_cases ha : a = 0
  · subst ha; simp
  · have := (Nat.le_log2 (by omega : b ≠ 0)).2 (Nat.le_trans (Nat.log2_self_le ha) h)
    omega
theorem lg_small {n : Nat} (h : n < 100000) : lg n ≤ 34 := by
  unfold lg
  by_cases hn : n = 0
  · subst hn; simp
  · have := (Nat.log2_lt hn (k := 17)).2 (by omega)
    omega
def DuePost (w : World) (hp : Nat) (F : Nat → Prop) (l : List It) (s : Int) (now : Int) (e : Ending) (w' : World) : Prop :=
  ∃ v F' c, e = .returned v ∧ DS w hp F l s now w' v (lupto l now) (lfrom l now) F' c
set_option maxRecDepth 100000 in
set_option maxHeartbeats 2000000 in
theorem due_any {w : World} {hp : Nat} {F : Nat → Prop} {l : List It} {s : Int} (h : HL w hp F l s) (now : Int) (hn : l.length < 99990) (hs0 : 0 ≤ s) (hs1 : s ≤ 100000000000) :
    Calls Try.prog 41 #[ptr hp, .int .i64 now] w (DuePost w hp F l s now) := by
  have H := Lib.hid h
  have hS := Lib.hid h.1
  clear h
  go_enter Try.func41, Try.ntmps41
  have hpeek : ∀ (wr : World) (L : List It) (F' : Nat → Prop) (s' : Int), HL wr hp F' L s' → Calls Try.prog 33 #[ptr hp] wr fun e w' => ∃ k t ok, PK L k t ok ∧ e = .returned (.tuple #[.int .i64 k, .int .i64 t, .bool ok]) ∧ Below wr.heap.size wr w' := by
    intro wr L F' s' hL
    cases L with
    | nil => exact (peek_nil hL).mono fun e w' ⟨he, hb⟩ => ⟨0, 0, false, .inl ⟨rfl, rfl⟩, he, hb⟩
    | cons p r => exact (peek_cons hL).mono fun e w' ⟨he, hb⟩ => ⟨p.1, p.2, true, .inr ⟨p, r, rfl, rfl, rfl, rfl⟩, he, hb⟩
  have HPK := Lib.hid hpeek
  clear hpeek
  go_wp2_with fail
  refine (HPK.out w l F s H.out).mono ?_
  rintro e w1 ⟨k, t, ok, hpk, rfl, hb1⟩
  have HK0 := Lib.hid hpk
  have HD0 := Lib.hid (show DS w hp F l s now w1 (.slice none 0 0) [] l F 0 from
    ⟨by simpa using H.out.below hb1, .of_below _ hb1, World.ownsRow_nil _ _ _ _, fun b h => (by cases h), fun k h => .inl h, rfl, rfl, by simp, by simp⟩)
  clear hpk hb1
  go_wp2
  go_loopw [5, 6, 7, 8] (fun dv kv tv ov wr => ∃ (k t : Int) (ok : Bool) (D L : List It) (F' : Nat → Prop) (c : Nat), kv = .int .i64 k ∧ tv = .int .i64 t ∧ ov = .bool ok ∧ Hid (PK L k t ok) ∧ Hid (DS w hp F l s now wr dv D L F' c)) (fun _ _ _ _ wr => hlen wr hp)
  case atStart => exact ⟨k, t, ok, [], l, F, 0, rfl, rfl, rfl, HK0, HD0⟩
  case round =>
    obtain ⟨k, t, ok, D, L, F', c, rfl, rfl, rfl, HK, HD⟩ := hrel
    obtain ⟨w2, rfl⟩ : ∃ w2, w2 = wr := ⟨_, rfl⟩
    clear HK0 HD0
    rcases HK.out with ⟨rfl, rfl⟩ | ⟨p, r, rfl, rfl, rfl, rfl⟩
    · go_wp2
      go_ret
      have h := HD.out
      have e1 : lupto l now = D := by rw [h.up]; simp [lupto]
      have e2 : lfrom l now = [] := by rw [h.fr]; rfl
      exact ⟨_, F', c, rfl, by rw [e1, e2]; exact h⟩
    · by_cases hle : p.2 ≤ now
      · have hD := HD.out
        have hc2 : c ≤ 34 * D.length := Nat.le_trans hD.cost (Nat.mul_le_mul_right _ (lg_small (by omega)))
        have hlen := hD.len
        simp only [List.length_cons] at hlen
        have sb0 : 0 ≤ s + (c : Int) := by omega
        have sb1 : s + (c : Int) ≤ 1000000000000 := by omega
        have HLN := Lib.hid hlen
        clear hD hc2 hlen
        go_wp2_with fail
        refine (cut_first HD.out.hl sb0 sb1).mono ?_
        rintro e w3 ⟨rfl, F3, d, h3, c3, n3, l3⟩
        have H3 := Lib.hid h3; have C3 := Lib.hid c3; have N3 := Lib.hid n3; have L3 := Lib.hid l3
        have O3 := Lib.hid (show Own64 w3 w.heap.size u5 (D.map (·.1)) from ownsRow_chg HD.out.own c3 HD.out.dis)
        have S3 := Lib.hid (show w.heap.size ≤ w3.heap.size from Nat.le_trans HD.out.chg.size c3.size)
        have D3 := Lib.hid (show ∀ b, u5.ownBlock = some b → ¬ F3 b from fun b hb hf => by
          rcases n3 b hf with e | e
          · exact HD.out.dis b hb e
          · have := (HD.out.own.lt b hb).2; omega)
        have OA := Lib.hid (show Own64 (w3.alloc (.cells #[.int .i64 p.1] 2)) w.heap.size u5 (D.map (·.1)) from O3.out.alloc _)
        have hlD : (D.map (·.1)).length < 1000000 := by rw [List.length_map]; have := HLN.out; omega
        obtain ⟨v4, w4, hrun, o4, g4, b4⟩ := app64 OA.out p.1 (b := w3.heap.size) (by simp [go_sem]) hlD (by simp; have := S3.out; omega)
        have HR4 := Lib.hid hrun; have O4 := Lib.hid o4; have G4 := Lib.hid g4; have B4 := Lib.hid b4
        clear h3 c3 n3 l3 hrun o4 g4 b4 hlD
        go_wp2_with (at_builtin; refine wpList_app_run rfl _ _ _ rfl rfl rfl HR4.out ?_)
        have C4 := Lib.hid (show Chg (fun k => u5.ownBlock = some k) w3 w4 from (Chg.of_below _ (ba (Below.refl _ _) _)).same (.of_grown G4.out fun k e => e))
        have H4 := Lib.hid (show HL w4 hp F3 r (s + (c : Int) + (d : Int)) from H3.out.chg C4.out fun k hk e => D3.out k e hk)
        refine (HPK.out w4 r F3 _ H4.out).mono ?_
        rintro e w5 ⟨k5, t5, ok5, hpk, rfl, hb5⟩
        have HK5 := Lib.hid hpk; have HB5 := Lib.hid hb5
        clear hpk hb5
        have HD5 := Lib.hid (show DS w hp F l s now w5 v4 (D ++ [p]) r F3 (c + d) from by
          have h0 := HD.out
          refine ⟨by have := H4.out.below HB5.out; rwa [Int.add_assoc, ← Int.natCast_add] at this, ?_, ?_, ?_, ?_, ?_, ?_, ?_, ?_⟩
          · refine (h0.chg.trans (G := fun k => F' k ∨ u5.ownBlock = some k) ((C3.out.mono fun k h => .inl h).same (C4.out.mono fun k h => .inr h)) fun k hk => ?_).then_below HB5.out
            rcases hk with hk | hk
            · exact h0.new k hk
            · exact .inr (h0.own.lt k hk).1
          · rw [List.map_append]
            exact ownsRow_chg O4.out (.of_below (fun _ => False) HB5.out) fun b _ => id
          · intro b hb hf
            rcases B4.out with e | e
            · exact D3.out b (by rw [← e]; exact hb) hf
            · rw [e] at hb; cases hb
              have := H3.out.lt _ hf
              simp at this; omega
          · intro k hk
            rcases N3.out k hk with e | e
            · exact h0.new k e
            · have := h0.chg.size; exact .inr (by omega)
          · rw [h0.up, (lup_cons hle).1]; simp
          · rw [h0.fr, (lup_cons hle).2]
          · have := h0.len; simp at this ⊢; omega
          · have h1 := h0.cost
            have h2 := L3.out
            have h3 : lg (r.length + 1) ≤ lg l.length := lg_mono (by have := h0.len; simp at this; omega)
            rw [List.length_append, List.length_singleton, Nat.mul_add]; omega)
        clear H4 C4 B4 G4 O4 OA
        go_wp2
        go_roundw
        case rel => exact ⟨k5, t5, ok5, D ++ [p], r, F3, c + d, rfl, rfl, rfl, HK5, HD5⟩
        case measure =>
          rw [HD5.out.hl.hlen, HD.out.hl.hlen]; simp
      · go_wp2
        go_ret
        have h := HD.out
        obtain ⟨e1, e2⟩ := h.hl.1.late (t := now) (by omega)
        have e3 : lupto l now = D := by rw [h.up, e1]; simp
        have e4 : lfrom l now = p :: r := by rw [h.fr, e2]
        exact ⟨_, F', c, rfl, by rw [e3, e4]; exact h⟩
end Go.Proofs.Ytajcelmnblncaaa
