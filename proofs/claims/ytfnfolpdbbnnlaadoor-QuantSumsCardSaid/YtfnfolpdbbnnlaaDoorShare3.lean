/- Contract of share.Least, and of works in the statements of layer 7. Condition: at most 100 shares. -/
import Derived.Test.YtfnfolpdbbnnlaaDoorShare2
import Derived.Test.YtfnfolpdbbnnlaaDoorInts
namespace Go.Proofs.YtfnfolpdbbnnlaaDoor
open Go.RowKit
attribute [local go_sem] ext_cell ext_frozen
/-- The indices of the least valid shares among the first k. -/
def leastK (n d w : Nat → Int) : Nat → List Nat
  | 0 => []
  | k + 1 => if SRt (n k) (d k) (w k) then
      match leastK n d w k with
      | [] => [k]
      | j :: L => if scmp (n k) (d k) (w k) (n j) (d j) (w j) < 0 then [k] else if scmp (n k) (d k) (w k) (n j) (d j) (w j) = 0 then j :: L ++ [k] else j :: L
    else leastK n d w k
theorem leastK_bd (n d w : Nat → Int) : ∀ k, (∀ j ∈ leastK n d w k, j < k) ∧ (leastK n d w k).length ≤ k
  | 0 => by simp [leastK]
  | k + 1 => by
    obtain ⟨h1, h2⟩ := leastK_bd n d w k
    unfold leastK
    split
    · cases hL : leastK n d w k with
      | nil => simp
      | cons j L =>
        rw [hL] at h1 h2
        have h3 : ∀ x ∈ j :: L, x < k + 1 := fun x hx => Nat.lt_succ_of_lt (h1 x hx)
        simp only
        split
        · simp
        · split
          · refine ⟨fun x hx => ?_, by simp at h2 ⊢; omega⟩
            rw [List.mem_append] at hx
            rcases hx with hx | hx
            · exact h3 x hx
            · simp at hx; omega
          · exact ⟨h3, Nat.le_succ_of_le h2⟩
    · exact ⟨fun x hx => Nat.lt_succ_of_lt (h1 x hx), Nat.le_succ_of_le h2⟩
theorem leastK_no {n d w : Nat → Int} {k : Nat} (h : ¬ SRt (n k) (d k) (w k)) : leastK n d w (k + 1) = leastK n d w k := by rw [leastK, if_neg h]
theorem leastK_first {n d w : Nat → Int} {k : Nat} (h : SRt (n k) (d k) (w k)) (hL : leastK n d w k = []) : leastK n d w (k + 1) = [k] := by rw [leastK, if_pos h, hL]
theorem leastK_less {n d w : Nat → Int} {k j : Nat} {L : List Nat} (h : SRt (n k) (d k) (w k)) (hL : leastK n d w k = j :: L) (ho : scmp (n k) (d k) (w k) (n j) (d j) (w j) < 0) : leastK n d w (k + 1) = [k] := by
  rw [leastK, if_pos h, hL]; simp only; rw [if_pos ho]
theorem leastK_same {n d w : Nat → Int} {k j : Nat} {L : List Nat} (h : SRt (n k) (d k) (w k)) (hL : leastK n d w k = j :: L) (ho : scmp (n k) (d k) (w k) (n j) (d j) (w j) = 0) : leastK n d w (k + 1) = j :: L ++ [k] := by
  rw [leastK, if_pos h, hL]; simp only; rw [if_neg (by omega), if_pos ho]
theorem leastK_more {n d w : Nat → Int} {k j : Nat} {L : List Nat} (h : SRt (n k) (d k) (w k)) (hL : leastK n d w k = j :: L) (ho : 0 < scmp (n k) (d k) (w k) (n j) (d j) (w j)) : leastK n d w (k + 1) = j :: L := by
  rw [leastK, if_pos h, hL]; simp only; rw [if_neg (by omega), if_neg (by omega)]
/-- The cells of a slice of shares. -/
def Shares (W : World) (b off : Nat) (len : Nat) (n d w : Nat → Int) : Prop :=
  ∀ i, i < len → W.cell? ⟨b, off + i * 3, none⟩ = some (.int .i64 (n i)) ∧ W.cell? ⟨b, off + i * 3 + 1, none⟩ = some (.int .i64 (d i)) ∧ W.cell? ⟨b, off + i * 3 + 2, none⟩ = some (.int .i64 (w i))
def nats (L : List Nat) : List Int := L.map fun (j : Nat) => (j : Int)
/-- The row under way. -/
def LRow (W wr : World) (v : Value) (L : List Nat) : Prop := wr.ownsRow W.heap.size 3 1 v L.length (ints (nats L)) ∧ (L = [] → v = .slice none 0 0) ∧ Below W.heap.size W wr
theorem LRow.grow {W wr w1 : World} {v : Value} {L : List Nat} (h : LRow W wr v L) (hb : Below wr.heap.size wr w1) : LRow W w1 v L := ⟨ownsRow_grow h.1 hb, h.2.1, bt h.2.2 hb⟩
theorem LRow.snoc {W wr w1 : World} {v v' : Value} {L : List Nat} {k : Nat} {o : Obj} (hown : wr.ownsRow W.heap.size 3 1 v L.length (ints (nats L))) (hb : Below W.heap.size W wr)
    (h1 : w1.ownsRow W.heap.size 3 1 v' (L.length + 1) (ints (nats L) ++ [.int .i64 (k : Int)])) (hg : (wr.alloc o).grownBy w1 v.ownBlock) : LRow W w1 v' (L ++ [k]) := by
  obtain ⟨a, b⟩ := own_more hown hb h1 hg
  refine ⟨by simpa [nats] using a, fun h => by simp at h, b⟩

theorem LRow.cut {W wr : World} {g cp m : Nat} {L : List Nat} (h : LRow W wr (.slice (some ⟨g, 0, none⟩) m cp) L) : wr.ownsRow W.heap.size 3 1 (.slice (some ⟨g, 0, none⟩) 0 cp) ([] : List Nat).length (ints (nats [])) := by
  rcases h.1.2 with ⟨h0, _⟩ | ⟨g', cp', cur, he, hb, hg, _, hm, hs, _⟩
  · cases h0
  · cases he
    exact ⟨by simp [nats], .inr ⟨g, cp, cur, rfl, hb, hg, Nat.zero_le _, hm, hs, by simp [nats]⟩⟩
set_option maxRecDepth 100000 in
set_option maxHeartbeats 8000000 in
theorem least_some (b off len cap : Nat) (n d w : Nat → Int) (W : World) (hb : b < W.heap.size) (hlen : 0 < len) (hbig : len ≤ 100) (hF : Shares W b off len n d w) :
    Calls Tryd.prog 48 #[.slice (some ⟨b, off, none⟩) len cap] W fun e w' => ∃ v, e = .returned v ∧ LRow W w' v (leastK n d w len) := by
  obtain ⟨i0, hi, hz0, hz1, hz2⟩ := info_parts infoInt
  have HF := Lib.hid hF
  clear hF
  go_enter Tryd.func48, Tryd.ntmps48
  go_wp2
  go_loopw [3, 9] (fun v i wr => ∃ (k : Nat) (x : Value), k ≤ len ∧ i = .int .i64 k ∧ x = v ∧ Hid (LRow W wr x (leastK n d w k))) (fun _ i _ => len - (intOf i).toNat)
  case atStart => exact ⟨0, _, Nat.zero_le _, rfl, rfl, Lib.hid ⟨(World.ownsRow_nil _ _ _ _ : W.ownsRow W.heap.size 3 1 (.slice none 0 0) 0 []), fun _ => rfl, Below.refl _ _⟩⟩
  case round =>
    obtain ⟨k, v, hk, rfl, rfl, HL⟩ := hrel
    obtain ⟨w1, rfl⟩ : ∃ w1, w1 = wr := ⟨_, rfl⟩
    have hb1 := HL.out.2.2
    have hs1 : W.heap.size + 0 ≤ w1.heap.size := (by have h := hb1.size; first | omega | (simp at h; omega))
    obtain ⟨hc1, hf1, hl1⟩ := bcell hb1
    clear hl1
    by_cases hlt : k < len
    · obtain ⟨c0, c1, c2⟩ := HF.out k hlt
      have hks : (k : Int) < (len : Int) := by omega
      by_cases hr : SRt (n k) (d k) (w k)
      · have HR := Lib.hid (sright_yes _ _ _ hr)
        cases hL : leastK n d w k with
        | nil =>
          have HS := Lib.hid (leastK_first hr hL)
          rw [hL] at HL
          obtain rfl := HL.out.2.1 rfl
          clear hr hL
          go_wp2_with fail
          (with_reducible refine (HR.out _).mono ?_)
          rintro e w2 ⟨rfl, hb2⟩
          have hs2 : w1.heap.size + 1 ≤ w2.heap.size := (by have h := hb2.size; first | omega | (simp at h; omega))
          have hb1_2 := bel hb1 hb2 (by (repeat (first | assumption | exact Below.refl _ _ | refine ba ?_ _ | refine bd ?_ | refine bdn ?_ _ | refine bs ?_ (by first | omega | (simp; done) | (simp; omega)) _ | refine bt ?_ (by assumption))))
          clear hc1 hf1
          have hz2_0 : w1.heap.size < w2.heap.size := (by omega)
          obtain ⟨hc2, hf2, hl2⟩ := bcell hb2
          clear hl2
          have HL2 := HL.out.grow (show Below w1.heap.size w1 w2 by (repeat (first | exact Below.refl _ _ | refine ba ?_ _ | refine bd ?_ | refine bdn ?_ _ | refine bs ?_ (by first | omega | (simp; done) | (simp; omega)) _ | refine bt ?_ hb24 | refine bt ?_ hb23 | refine bt ?_ hb22 | refine bt ?_ hb21 | refine bt ?_ hb20 | refine bt ?_ hb19 | refine bt ?_ hb18 | refine bt ?_ hb17 | refine bt ?_ hb16 | refine bt ?_ hb15 | refine bt ?_ hb14 | refine bt ?_ hb13 | refine bt ?_ hb12 | refine bt ?_ hb11 | refine bt ?_ hb10 | refine bt ?_ hb9 | refine bt ?_ hb8 | refine bt ?_ hb7 | refine bt ?_ hb6 | refine bt ?_ hb5 | refine bt ?_ hb4 | refine bt ?_ hb3 | refine bt ?_ hb2 | refine bt ?_ hb1)))
          have hown2 := HL2.1
          have hb02 := HL2.2.2
          clear HL2
          go_wp2_with (at_builtin; refine wpList_append_own _ rfl _ _ 68 rfl W.heap.size 3 i0 (.int .i64 0) 1 8 Tryd.underlying68 hi hz0 hz1 hz2 rfl (by decide) _ _ _ rfl (hown2.alloc _) ⟨_, 0, none⟩ 1 1 [.int .i64 (k : Int)] rfl rfl ?c1 ?c2 ?c3 ?c4 ?c5 ?_)
          case c1 => intro q u' hq; cases q <;> simp at hq; subst hq; first | (simp [Addr.add, go_sem]; done) | (simp [Addr.add]; exact (World.cell?_alloc_at _ _ _ _ rfl).trans rfl)
          case c2 => intro u' hu; simp at hu; subst hu; rfl
          case c3 => unfold maxLen; first | omega | (simp; done) | (simp; omega)
          case c4 => first | omega | (simp; done) | (simp; omega)
          case c5 => simp; omega
          intro v' w9 hown' hgrow _
          have HN := Lib.hid (LRow.snoc (L := []) hown2 hb02 hown' hgrow)
          clear hown' hgrow
          go_wp2
          go_roundw
          case rel => exact ⟨k + 1, _, by omega, by go_num, rfl, by rw [HS.out]; exact HN⟩
          case measure => simp [intOf]; omega
        | cons j L =>
          have hbd := leastK_bd n d w k
          rw [hL] at hbd HL
          have hjk := hbd.1 j (by simp)
          have hLl := hbd.2
          simp only [List.length_cons] at hLl
          obtain ⟨e0, e1, e2⟩ := HF.out j (by omega)
          have hjl : (j : Int) < (len : Int) := by omega
          have hj0 : decide ((j : Int) < 0) = false := by simp
          obtain ⟨g, cp, rfl⟩ : ∃ g cp, v = .slice (some ⟨g, 0, none⟩) (L.length + 1) cp := by
            rcases HL.out.1.2 with ⟨_, h0⟩ | ⟨g, cp, _, h0, _⟩
            · simp at h0
            · exact ⟨g, cp, h0⟩
          have hll : (0 : Int) < ((L.length + 1 : Nat) : Int) := by omega
          have hS := Lib.hid (scmp_any (n k) (d k) (w k) (n j) (d j) (w j))
          clear hbd
          by_cases ho : scmp (n k) (d k) (w k) (n j) (d j) (w j) < 0
          · have HS := Lib.hid (leastK_less hr hL ho)
            generalize scmp (n k) (d k) (w k) (n j) (d j) (w j) = o at *
            have HR := Lib.hid (sright_yes _ _ _ hr)
            clear hr hL
            go_wp2_with fail
            (with_reducible refine (HR.out _).mono ?_)
            rintro e w2 ⟨rfl, hb2⟩
            have hs2 : w1.heap.size + 1 ≤ w2.heap.size := (by have h := hb2.size; first | omega | (simp at h; omega))
            have hb1_2 := bel hb1 hb2 (by (repeat (first | assumption | exact Below.refl _ _ | refine ba ?_ _ | refine bd ?_ | refine bdn ?_ _ | refine bs ?_ (by first | omega | (simp; done) | (simp; omega)) _ | refine bt ?_ (by assumption))))
            clear hc1 hf1
            have hz2_0 : w1.heap.size < w2.heap.size := (by omega)
            obtain ⟨hc2, hf2, hl2⟩ := bcell hb2
            clear hl2
            have HL2 := HL.out.grow (show Below w1.heap.size w1 w2 by (repeat (first | exact Below.refl _ _ | refine ba ?_ _ | refine bd ?_ | refine bdn ?_ _ | refine bs ?_ (by first | omega | (simp; done) | (simp; omega)) _ | refine bt ?_ hb24 | refine bt ?_ hb23 | refine bt ?_ hb22 | refine bt ?_ hb21 | refine bt ?_ hb20 | refine bt ?_ hb19 | refine bt ?_ hb18 | refine bt ?_ hb17 | refine bt ?_ hb16 | refine bt ?_ hb15 | refine bt ?_ hb14 | refine bt ?_ hb13 | refine bt ?_ hb12 | refine bt ?_ hb11 | refine bt ?_ hb10 | refine bt ?_ hb9 | refine bt ?_ hb8 | refine bt ?_ hb7 | refine bt ?_ hb6 | refine bt ?_ hb5 | refine bt ?_ hb4 | refine bt ?_ hb3 | refine bt ?_ hb2 | refine bt ?_ hb1)))
            have gc : w2.cell? ⟨g, 0, none⟩ = some (.int .i64 (j : Int)) := World.ownsRow.cellAt HL2.1 0 (by simp)
            have gf := World.ownsRow.frozenAt HL2.1 0
            have gl : g < w2.heap.size := (HL2.1.lt g rfl).2
            have hbz : b < w2.heap.size := by omega
            obtain ⟨hcW, hfW, hlW⟩ := bcell (bt hb1 (show Below w1.heap.size w1 w2 by (repeat (first | exact Below.refl _ _ | refine ba ?_ _ | refine bd ?_ | refine bdn ?_ _ | refine bs ?_ (by first | omega | (simp; done) | (simp; omega)) _ | refine bt ?_ hb24 | refine bt ?_ hb23 | refine bt ?_ hb22 | refine bt ?_ hb21 | refine bt ?_ hb20 | refine bt ?_ hb19 | refine bt ?_ hb18 | refine bt ?_ hb17 | refine bt ?_ hb16 | refine bt ?_ hb15 | refine bt ?_ hb14 | refine bt ?_ hb13 | refine bt ?_ hb12 | refine bt ?_ hb11 | refine bt ?_ hb10 | refine bt ?_ hb9 | refine bt ?_ hb8 | refine bt ?_ hb7 | refine bt ?_ hb6 | refine bt ?_ hb5 | refine bt ?_ hb4 | refine bt ?_ hb3 | refine bt ?_ hb2 | refine bt ?_ hb1))))
            clear hlW hfW
            have HL2' := Lib.hid HL2
            clear HL2
            go_wp2_with fail
            refine wp_region_pure (by kernel_rfl) (by kernel_rfl) ?_
            repeat (first | go_big_quiet_step (((go_at_call 44; with_reducible exact hS.out.quiet))) | (quiet_step (((go_at_call 44; with_reducible exact hS.out.quiet)))))
            refine wpQuiet_nil ?_
            rintro w3 ⟨x3, hx3⟩
            have hb3 := ext_below _ x3
            rw [← hx3] at hb3
            clear hx3 x3
            have hs3 : w2.heap.size + 0 ≤ w3.heap.size := (by have h := hb3.size; first | omega | (simp at h; omega))
            have hb1_3 := bel hb1_2 hb3 (by (repeat (first | assumption | exact Below.refl _ _ | refine ba ?_ _ | refine bd ?_ | refine bdn ?_ _ | refine bs ?_ (by first | omega | (simp; done) | (simp; omega)) _ | refine bt ?_ (by assumption))))
            have hb2_3 := bel hb2 hb3 (by (repeat (first | assumption | exact Below.refl _ _ | refine ba ?_ _ | refine bd ?_ | refine bdn ?_ _ | refine bs ?_ (by first | omega | (simp; done) | (simp; omega)) _ | refine bt ?_ (by assumption))))
            clear hz2_0 hc2 hf2
            obtain ⟨hc2_3, hf2_3, hl2_3⟩ := bcell hb2_3
            clear hl2_3
            have hz3_0 : w1.heap.size < w3.heap.size := (by omega)
            obtain ⟨hc3, hf3, hl3⟩ := bcell hb3
            clear hl3
            have HL3 := HL2'.out.grow (show Below w2.heap.size w2 w3 by (repeat (first | exact Below.refl _ _ | refine ba ?_ _ | refine bd ?_ | refine bdn ?_ _ | refine bs ?_ (by first | omega | (simp; done) | (simp; omega)) _ | refine bt ?_ hb24 | refine bt ?_ hb23 | refine bt ?_ hb22 | refine bt ?_ hb21 | refine bt ?_ hb20 | refine bt ?_ hb19 | refine bt ?_ hb18 | refine bt ?_ hb17 | refine bt ?_ hb16 | refine bt ?_ hb15 | refine bt ?_ hb14 | refine bt ?_ hb13 | refine bt ?_ hb12 | refine bt ?_ hb11 | refine bt ?_ hb10 | refine bt ?_ hb9 | refine bt ?_ hb8 | refine bt ?_ hb7 | refine bt ?_ hb6 | refine bt ?_ hb5 | refine bt ?_ hb4 | refine bt ?_ hb3 | refine bt ?_ hb2 | refine bt ?_ hb1)))
            clear gc gf hcW
            have hown3 := LRow.cut HL3
            have hb03 := HL3.2.2
            clear HL3
            go_wp2_with (at_builtin; refine wpList_append_own _ rfl _ _ 68 rfl W.heap.size 3 i0 (.int .i64 0) 1 8 Tryd.underlying68 hi hz0 hz1 hz2 rfl (by decide) _ _ _ rfl (hown3.alloc _) ⟨_, 0, none⟩ 1 1 [.int .i64 (k : Int)] rfl rfl ?d1 ?d2 ?d3 ?d4 ?d5 ?_)
            case d1 => intro q u' hq; cases q <;> simp at hq; subst hq; first | (simp [Addr.add, go_sem]; done) | (simp [Addr.add]; exact (World.cell?_alloc_at _ _ _ _ rfl).trans rfl)
            case d2 => intro u' hu; simp at hu; subst hu; rfl
            case d3 => unfold maxLen; first | omega | (simp; done) | (simp; omega)
            case d4 => first | omega | (simp; done) | (simp; omega)
            case d5 => simp; omega
            intro v' w9 hown' hgrow _
            have HN := Lib.hid (LRow.snoc (L := []) hown3 hb03 hown' hgrow)
            clear hown' hgrow
            go_wp2
            go_roundw
            case rel => exact ⟨k + 1, _, by omega, by go_num, rfl, by rw [HS.out]; exact HN⟩
            case measure => simp [intOf]; omega
          · by_cases ho2 : scmp (n k) (d k) (w k) (n j) (d j) (w j) = 0
            · have HS := Lib.hid (leastK_same hr hL ho2)
              rw [ho2] at hS
              clear ho ho2
              have HR := Lib.hid (sright_yes _ _ _ hr)
              clear hr hL
              go_wp2_with fail
              (with_reducible refine (HR.out _).mono ?_)
              rintro e w2 ⟨rfl, hb2⟩
              have hs2 : w1.heap.size + 1 ≤ w2.heap.size := (by have h := hb2.size; first | omega | (simp at h; omega))
              have hb1_2 := bel hb1 hb2 (by (repeat (first | assumption | exact Below.refl _ _ | refine ba ?_ _ | refine bd ?_ | refine bdn ?_ _ | refine bs ?_ (by first | omega | (simp; done) | (simp; omega)) _ | refine bt ?_ (by assumption))))
              clear hc1 hf1
              have hz2_0 : w1.heap.size < w2.heap.size := (by omega)
              obtain ⟨hc2, hf2, hl2⟩ := bcell hb2
              clear hl2
              have HL2 := HL.out.grow (show Below w1.heap.size w1 w2 by (repeat (first | exact Below.refl _ _ | refine ba ?_ _ | refine bd ?_ | refine bdn ?_ _ | refine bs ?_ (by first | omega | (simp; done) | (simp; omega)) _ | refine bt ?_ hb24 | refine bt ?_ hb23 | refine bt ?_ hb22 | refine bt ?_ hb21 | refine bt ?_ hb20 | refine bt ?_ hb19 | refine bt ?_ hb18 | refine bt ?_ hb17 | refine bt ?_ hb16 | refine bt ?_ hb15 | refine bt ?_ hb14 | refine bt ?_ hb13 | refine bt ?_ hb12 | refine bt ?_ hb11 | refine bt ?_ hb10 | refine bt ?_ hb9 | refine bt ?_ hb8 | refine bt ?_ hb7 | refine bt ?_ hb6 | refine bt ?_ hb5 | refine bt ?_ hb4 | refine bt ?_ hb3 | refine bt ?_ hb2 | refine bt ?_ hb1)))
              have gc : w2.cell? ⟨g, 0, none⟩ = some (.int .i64 (j : Int)) := World.ownsRow.cellAt HL2.1 0 (by simp)
              have gf := World.ownsRow.frozenAt HL2.1 0
              have gl : g < w2.heap.size := (HL2.1.lt g rfl).2
              have hbz : b < w2.heap.size := by omega
              obtain ⟨hcW, hfW, hlW⟩ := bcell (bt hb1 (show Below w1.heap.size w1 w2 by (repeat (first | exact Below.refl _ _ | refine ba ?_ _ | refine bd ?_ | refine bdn ?_ _ | refine bs ?_ (by first | omega | (simp; done) | (simp; omega)) _ | refine bt ?_ hb24 | refine bt ?_ hb23 | refine bt ?_ hb22 | refine bt ?_ hb21 | refine bt ?_ hb20 | refine bt ?_ hb19 | refine bt ?_ hb18 | refine bt ?_ hb17 | refine bt ?_ hb16 | refine bt ?_ hb15 | refine bt ?_ hb14 | refine bt ?_ hb13 | refine bt ?_ hb12 | refine bt ?_ hb11 | refine bt ?_ hb10 | refine bt ?_ hb9 | refine bt ?_ hb8 | refine bt ?_ hb7 | refine bt ?_ hb6 | refine bt ?_ hb5 | refine bt ?_ hb4 | refine bt ?_ hb3 | refine bt ?_ hb2 | refine bt ?_ hb1))))
              clear hlW hfW
              have HL2' := Lib.hid HL2
              clear HL2
              go_wp2_with fail
              refine wp_region_pure (by kernel_rfl) (by kernel_rfl) ?_
              repeat (first | go_big_quiet_step (((go_at_call 44; with_reducible exact hS.out.quiet))) | (quiet_step (((go_at_call 44; with_reducible exact hS.out.quiet)))))
              refine wpQuiet_nil ?_
              rintro w3 ⟨x3, hx3⟩
              have hb3 := ext_below _ x3
              rw [← hx3] at hb3
              clear hx3 x3
              have hs3 : w2.heap.size + 0 ≤ w3.heap.size := (by have h := hb3.size; first | omega | (simp at h; omega))
              have hb1_3 := bel hb1_2 hb3 (by (repeat (first | assumption | exact Below.refl _ _ | refine ba ?_ _ | refine bd ?_ | refine bdn ?_ _ | refine bs ?_ (by first | omega | (simp; done) | (simp; omega)) _ | refine bt ?_ (by assumption))))
              have hb2_3 := bel hb2 hb3 (by (repeat (first | assumption | exact Below.refl _ _ | refine ba ?_ _ | refine bd ?_ | refine bdn ?_ _ | refine bs ?_ (by first | omega | (simp; done) | (simp; omega)) _ | refine bt ?_ (by assumption))))
              clear hz2_0 hc2 hf2
              obtain ⟨hc2_3, hf2_3, hl2_3⟩ := bcell hb2_3
              clear hl2_3
              have hz3_0 : w1.heap.size < w3.heap.size := (by omega)
              obtain ⟨hc3, hf3, hl3⟩ := bcell hb3
              clear hl3
              have HL3 := HL2'.out.grow (show Below w2.heap.size w2 w3 by (repeat (first | exact Below.refl _ _ | refine ba ?_ _ | refine bd ?_ | refine bdn ?_ _ | refine bs ?_ (by first | omega | (simp; done) | (simp; omega)) _ | refine bt ?_ hb24 | refine bt ?_ hb23 | refine bt ?_ hb22 | refine bt ?_ hb21 | refine bt ?_ hb20 | refine bt ?_ hb19 | refine bt ?_ hb18 | refine bt ?_ hb17 | refine bt ?_ hb16 | refine bt ?_ hb15 | refine bt ?_ hb14 | refine bt ?_ hb13 | refine bt ?_ hb12 | refine bt ?_ hb11 | refine bt ?_ hb10 | refine bt ?_ hb9 | refine bt ?_ hb8 | refine bt ?_ hb7 | refine bt ?_ hb6 | refine bt ?_ hb5 | refine bt ?_ hb4 | refine bt ?_ hb3 | refine bt ?_ hb2 | refine bt ?_ hb1)))
              clear gc gf hcW
              have hown3 := HL3.1
              have hb03 := HL3.2.2
              clear HL3
              go_wp2_with (at_builtin; refine wpList_append_own _ rfl _ _ 68 rfl W.heap.size 3 i0 (.int .i64 0) 1 8 Tryd.underlying68 hi hz0 hz1 hz2 rfl (by decide) _ _ _ rfl (hown3.alloc _) ⟨_, 0, none⟩ 1 1 [.int .i64 (k : Int)] rfl rfl ?f1 ?f2 ?f3 ?f4 ?f5 ?_)
              case f1 => intro q u' hq; cases q <;> simp at hq; subst hq; first | (simp [Addr.add, go_sem]; done) | (simp [Addr.add]; exact (World.cell?_alloc_at _ _ _ _ rfl).trans rfl)
              case f2 => intro u' hu; simp at hu; subst hu; rfl
              case f3 => unfold maxLen; first | omega | (simp; done) | (simp; omega)
              case f4 => first | omega | (simp; done) | (simp; omega)
              case f5 => simp; omega
              intro v' w9 hown' hgrow _
              have HN := Lib.hid (LRow.snoc (L := j :: L) hown3 hb03 hown' hgrow)
              clear hown' hgrow
              go_wp2
              go_roundw
              case rel => exact ⟨k + 1, _, by omega, by go_num, rfl, by rw [HS.out]; exact HN⟩
              case measure => simp [intOf]; omega
            · have ho3 : 0 < scmp (n k) (d k) (w k) (n j) (d j) (w j) := by omega
              have HS := Lib.hid (leastK_more hr hL ho3)
              clear ho ho2
              generalize scmp (n k) (d k) (w k) (n j) (d j) (w j) = o at *
              have HR := Lib.hid (sright_yes _ _ _ hr)
              clear hr hL
              go_wp2_with fail
              (with_reducible refine (HR.out _).mono ?_)
              rintro e w2 ⟨rfl, hb2⟩
              have hs2 : w1.heap.size + 1 ≤ w2.heap.size := (by have h := hb2.size; first | omega | (simp at h; omega))
              have hb1_2 := bel hb1 hb2 (by (repeat (first | assumption | exact Below.refl _ _ | refine ba ?_ _ | refine bd ?_ | refine bdn ?_ _ | refine bs ?_ (by first | omega | (simp; done) | (simp; omega)) _ | refine bt ?_ (by assumption))))
              clear hc1 hf1
              have hz2_0 : w1.heap.size < w2.heap.size := (by omega)
              obtain ⟨hc2, hf2, hl2⟩ := bcell hb2
              clear hl2
              have HL2 := HL.out.grow (show Below w1.heap.size w1 w2 by (repeat (first | exact Below.refl _ _ | refine ba ?_ _ | refine bd ?_ | refine bdn ?_ _ | refine bs ?_ (by first | omega | (simp; done) | (simp; omega)) _ | refine bt ?_ hb24 | refine bt ?_ hb23 | refine bt ?_ hb22 | refine bt ?_ hb21 | refine bt ?_ hb20 | refine bt ?_ hb19 | refine bt ?_ hb18 | refine bt ?_ hb17 | refine bt ?_ hb16 | refine bt ?_ hb15 | refine bt ?_ hb14 | refine bt ?_ hb13 | refine bt ?_ hb12 | refine bt ?_ hb11 | refine bt ?_ hb10 | refine bt ?_ hb9 | refine bt ?_ hb8 | refine bt ?_ hb7 | refine bt ?_ hb6 | refine bt ?_ hb5 | refine bt ?_ hb4 | refine bt ?_ hb3 | refine bt ?_ hb2 | refine bt ?_ hb1)))
              have gc : w2.cell? ⟨g, 0, none⟩ = some (.int .i64 (j : Int)) := World.ownsRow.cellAt HL2.1 0 (by simp)
              have gf := World.ownsRow.frozenAt HL2.1 0
              have gl : g < w2.heap.size := (HL2.1.lt g rfl).2
              have hbz : b < w2.heap.size := by omega
              obtain ⟨hcW, hfW, hlW⟩ := bcell (bt hb1 (show Below w1.heap.size w1 w2 by (repeat (first | exact Below.refl _ _ | refine ba ?_ _ | refine bd ?_ | refine bdn ?_ _ | refine bs ?_ (by first | omega | (simp; done) | (simp; omega)) _ | refine bt ?_ hb24 | refine bt ?_ hb23 | refine bt ?_ hb22 | refine bt ?_ hb21 | refine bt ?_ hb20 | refine bt ?_ hb19 | refine bt ?_ hb18 | refine bt ?_ hb17 | refine bt ?_ hb16 | refine bt ?_ hb15 | refine bt ?_ hb14 | refine bt ?_ hb13 | refine bt ?_ hb12 | refine bt ?_ hb11 | refine bt ?_ hb10 | refine bt ?_ hb9 | refine bt ?_ hb8 | refine bt ?_ hb7 | refine bt ?_ hb6 | refine bt ?_ hb5 | refine bt ?_ hb4 | refine bt ?_ hb3 | refine bt ?_ hb2 | refine bt ?_ hb1))))
              clear hlW hfW
              have HL2' := Lib.hid HL2
              clear HL2
              go_wp2_with fail
              refine wp_region_pure (by kernel_rfl) (by kernel_rfl) ?_
              repeat (first | go_big_quiet_step (((go_at_call 44; with_reducible exact hS.out.quiet))) | (quiet_step (((go_at_call 44; with_reducible exact hS.out.quiet)))))
              refine wpQuiet_nil ?_
              rintro w3 ⟨x3, hx3⟩
              have hb3 := ext_below _ x3
              rw [← hx3] at hb3
              clear hx3 x3
              have hs3 : w2.heap.size + 0 ≤ w3.heap.size := (by have h := hb3.size; first | omega | (simp at h; omega))
              have hb1_3 := bel hb1_2 hb3 (by (repeat (first | assumption | exact Below.refl _ _ | refine ba ?_ _ | refine bd ?_ | refine bdn ?_ _ | refine bs ?_ (by first | omega | (simp; done) | (simp; omega)) _ | refine bt ?_ (by assumption))))
              have hb2_3 := bel hb2 hb3 (by (repeat (first | assumption | exact Below.refl _ _ | refine ba ?_ _ | refine bd ?_ | refine bdn ?_ _ | refine bs ?_ (by first | omega | (simp; done) | (simp; omega)) _ | refine bt ?_ (by assumption))))
              clear hz2_0 hc2 hf2
              obtain ⟨hc2_3, hf2_3, hl2_3⟩ := bcell hb2_3
              clear hl2_3
              have hz3_0 : w1.heap.size < w3.heap.size := (by omega)
              obtain ⟨hc3, hf3, hl3⟩ := bcell hb3
              clear hl3
              have HL3 := HL2'.out.grow (show Below w2.heap.size w2 w3 by (repeat (first | exact Below.refl _ _ | refine ba ?_ _ | refine bd ?_ | refine bdn ?_ _ | refine bs ?_ (by first | omega | (simp; done) | (simp; omega)) _ | refine bt ?_ hb24 | refine bt ?_ hb23 | refine bt ?_ hb22 | refine bt ?_ hb21 | refine bt ?_ hb20 | refine bt ?_ hb19 | refine bt ?_ hb18 | refine bt ?_ hb17 | refine bt ?_ hb16 | refine bt ?_ hb15 | refine bt ?_ hb14 | refine bt ?_ hb13 | refine bt ?_ hb12 | refine bt ?_ hb11 | refine bt ?_ hb10 | refine bt ?_ hb9 | refine bt ?_ hb8 | refine bt ?_ hb7 | refine bt ?_ hb6 | refine bt ?_ hb5 | refine bt ?_ hb4 | refine bt ?_ hb3 | refine bt ?_ hb2 | refine bt ?_ hb1)))
              clear gc gf hcW
              have HN := Lib.hid HL3
              clear HL3
              go_wp2
              go_roundw
              case rel => exact ⟨k + 1, _, by omega, by go_num, rfl, by rw [HS.out]; exact HN⟩
              case measure => simp [intOf]; omega
      · have HS := Lib.hid (leastK_no hr)
        have HR := Lib.hid (sright_no _ _ _ hr)
        clear hr
        generalize hL : leastK n d w k = L at *
        go_wp2_with fail
        (with_reducible refine (HR.out _).mono ?_)
        rintro e w2 ⟨rfl, hb2⟩
        have hs2 : w1.heap.size + 1 ≤ w2.heap.size := (by have h := hb2.size; first | omega | (simp at h; omega))
        have hb1_2 := bel hb1 hb2 (by (repeat (first | assumption | exact Below.refl _ _ | refine ba ?_ _ | refine bd ?_ | refine bdn ?_ _ | refine bs ?_ (by first | omega | (simp; done) | (simp; omega)) _ | refine bt ?_ (by assumption))))
        clear hc1 hf1
        have hz2_0 : w1.heap.size < w2.heap.size := (by omega)
        obtain ⟨hc2, hf2, hl2⟩ := bcell hb2
        clear hl2
        have HL2 := Lib.hid (HL.out.grow (show Below w1.heap.size w1 w2 by (repeat (first | exact Below.refl _ _ | refine ba ?_ _ | refine bd ?_ | refine bdn ?_ _ | refine bs ?_ (by first | omega | (simp; done) | (simp; omega)) _ | refine bt ?_ hb24 | refine bt ?_ hb23 | refine bt ?_ hb22 | refine bt ?_ hb21 | refine bt ?_ hb20 | refine bt ?_ hb19 | refine bt ?_ hb18 | refine bt ?_ hb17 | refine bt ?_ hb16 | refine bt ?_ hb15 | refine bt ?_ hb14 | refine bt ?_ hb13 | refine bt ?_ hb12 | refine bt ?_ hb11 | refine bt ?_ hb10 | refine bt ?_ hb9 | refine bt ?_ hb8 | refine bt ?_ hb7 | refine bt ?_ hb6 | refine bt ?_ hb5 | refine bt ?_ hb4 | refine bt ?_ hb3 | refine bt ?_ hb2 | refine bt ?_ hb1))))
        go_wp2
        go_roundw
        case rel => exact ⟨k + 1, _, by omega, by go_num, rfl, by rw [HS.out]; exact HL2⟩
        case measure => simp [intOf]; omega
    · obtain rfl : k = len := by omega
      go_wp2
      go_ret
      exact ⟨_, rfl, HL.out⟩
end Go.Proofs.YtfnfolpdbbnnlaaDoor
