/- vec.Text at any slice of parts. Condition: the names of the kinds and the powers of ten lie in their variables. -/
import Derived.Test.YtlhljioncgddeaaDoorVecG
import Derived.Test.YtlhljioncgddeaaDoorMixG
import Derived.Test.YtlhljioncgddeaaDoorSlotX
import Derived.Test.YtlhljioncgddeaaDoorQuantT
import Derived.Test.YtlhljioncgddeaaDoorLib3
import Derived.Test.YtlhljioncgddeaaDoorVecC
namespace Go.Proofs.YtlhljioncgddeaaDoor
open Go.RowKit
attribute [local go_sem] ext_cell ext_frozen Mix.extG_cell Mix.extG_frozen Mix.calmUpon Mix.mUpon
theorem infoStr : (Tryd.prog.info? 9).map (fun i => (i.zero, i.size, i.bytes)) = some (some (.string ⟨#[]⟩), 1, 16) := by kernel_rfl
/-- A part's word. -/
def wordB (p : Pt) : ByteArray := sT p.1.toNat p.2.1.toNat ++ ⟨#[58]⟩ ++ qT p.2.2.toNat
def wcells (l : List Pt) : List Value := l.map fun p => .string (wordB p)
theorem sT_size (k r : Nat) (h : r ≤ 32) : (sT k r).size ≤ 10 := by
  have h1 := nmS_size k
  have h2 := dec_size r h
  unfold sT; split
  · omega
  · rw [ByteArray.size_append, ByteArray.size_append, ByteArray.size_append]
    have e1 : (ByteArray.mk #[40]).size = 1 := rfl
    have e2 : (ByteArray.mk #[41]).size = 1 := rfl
    omega
theorem qT_size (n : Nat) (h : n ≤ 9007199254740992) : (qT n).size ≤ 30 := by
  show (qL n).toArray.size ≤ 30
  rw [List.size_toArray]
  have h1 := dec_len (n / 1000) (by omega)
  have h2 := frac_len (n % 1000)
  unfold qL; split
  · omega
  · rw [List.length_append, List.length_cons]; omega
theorem wordB_size {p : Pt} (h : POK p) : (wordB p).size ≤ 64 := by
  obtain ⟨⟨k0, k1, r0, r1⟩, a0, a1⟩ := h
  have h1 := sT_size p.1.toNat p.2.1.toNat (by omega)
  have h2 := qT_size p.2.2.toNat (by omega)
  unfold wordB
  rw [ByteArray.size_append, ByteArray.size_append]
  have e1 : (ByteArray.mk #[58]).size = 1 := rfl
  omega
theorem lens_le : ∀ (l : List (List UInt8)), (∀ x ∈ l, x.length ≤ 64) → Lib.lens l ≤ 64 * l.length
  | [], _ => by simp [Lib.lens]
  | x :: t, h => by
    have h1 := lens_le t fun y hy => h y (by simp [hy])
    have h2 := h x (by simp)
    simp only [Lib.lens, List.map_cons, List.sum_cons, List.length_cons] at h1 ⊢
    omega
theorem join_le {l : List Pt} (h : VR l) : (Lib.join ((l.map wordB).map (·.data.toList)) [44]).length ≤ 140737488355328 := by
  have hlen := vr_len h
  cases l with
  | nil => simp [Lib.join_nil]
  | cons p t =>
    rw [List.map_cons, List.map_cons, Lib.join_length]
    have h1 := lens_le ((wordB p).data.toList :: (t.map wordB).map (·.data.toList)) (fun x hx => by
      rcases List.mem_cons.1 hx with rfl | hx
      · show (wordB p).data.toList.length ≤ 64
        rw [Array.length_toList]; exact wordB_size h.head
      · obtain ⟨y, hy, rfl⟩ := List.mem_map.1 hx
        obtain ⟨z, hz, rfl⟩ := List.mem_map.1 hy
        show (wordB z).data.toList.length ≤ 64
        rw [Array.length_toList]; exact wordB_size (h.1 z (by simp [hz])))
    simp only [List.length_cons, List.length_map, List.length_nil] at h1 hlen ⊢
    omega
/-- A vector's text. -/
def textV (l : List Pt) : ByteArray := if VR l then (if l = [] then ⟨#[45]⟩ else ⟨(Lib.join ((l.map wordB).map (·.data.toList)) [44]).toArray⟩) else ⟨#[]⟩
def TN (w : World) : Prop := T10 w ∧ N4 w
theorem clo_TN : Clo TN := fun w w' h hb => ⟨clo_T10 w w' h.1 hb, clo_N4 w w' h.2 hb⟩
/-- 'append' of one string, in a region that draws its order. -/
theorem append_str {w : World} {base n : Nat} {v : Value} {xs : List Value} {x : ByteArray} {b c : Nat} {K : Act → World → Prop} {o : Oper} {a : Act} (s y : Operand)
    (ho : o.op = .call { callee := .builtin .append, args := #[s, y], argTypes := #[90, 90] }) (hs : a.eval s = v) (hy : a.eval y = .slice (some ⟨b, 0, none⟩) 1 c)
    (h : w.ownsRow base 9 1 v n xs) (h0 : w.cell? ⟨b, 0, none⟩ = some (.string x)) (hn : n ≤ 1000000) (hb : base ≤ w.heap.size)
    (hK : ∀ v' w', w'.ownsRow base 9 1 v' (n + 1) (xs ++ [.string x]) → w.grownBy w' v.ownBlock → K (a.put o.dst v') w') :
    Mix.mUpon Tryd.prog o a K ((execOp a.eval o).run Tryd.prog w) := by
  obtain ⟨i0, hi, hz0, hz1, hz2⟩ := info_parts infoStr
  obtain ⟨v', w', e1, e2, e3, _⟩ := run_append_own (P := Tryd.prog) w base 90 o.type 9 i0 (.string ⟨#[]⟩) 1 16 Tryd.underlying90 hi hz0 hz1 hz2 rfl (by decide) v n xs h ⟨b, 0, none⟩ 1 c [.string x] rfl
    (fun j u' hj => by
      rcases j with _ | j <;> simp at hj
      subst hj; simpa [Addr.add] using h0) (fun u' hu => by simp at hu; subst hu; rfl) (by unfold maxLen; omega) (by omega) hb
  unfold execOp
  simp only [ho, resolve, invoke, builtin, Sem.run_bind, Sem.run_pure, Result.andThen_ok, List.map_toArray, List.map_cons, List.map_nil, hs, hy, e1]
  exact hK v' w' e2 e3
/-- Where the loop over the parts stands. -/
structure TS (W wr : World) (l : List Pt) (v : Value) (t : Nat) : Prop where
  own : wr.ownsRow W.heap.size 9 1 v t (wcells (l.take t))
  bel : Below W.heap.size W wr
set_option maxRecDepth 100000 in
set_option maxHeartbeats 8000000 in
theorem vtext_cons (v : Value) (l : List Pt) (h : VR l) (hne : l ≠ []) (W : World) (hV : Vc W v l) (hT : TN W) : Calls Tryd.prog 53 #[v] W fun e w' => e = .returned (.string ⟨(Lib.join ((l.map wordB).map (·.data.toList)) [44]).toArray⟩) ∧ Below W.heap.size W w' := by
  have hlen := vr_len h
  have HR := vecright_v v l (by omega)
  rw [decide_eq_true h] at HR
  have HR := Lib.hid HR
  have HV := Lib.hid hV
  have HP := Lib.hid h
  have HTN := Lib.hid hT
  obtain ⟨a, n, cap, rfl, hn, hC⟩ := hV.cells
  have HC := Lib.hid hC
  have HN := Lib.hid hn
  have hn0 : 0 < n := by
    cases l with
    | nil => exact absurd rfl hne
    | cons p t => simp at hn; omega
  have hn1 : ((n : Int) == 0) = false := by simp; omega
  have hn9 : n ≤ 132 := by omega
  have HJL := Lib.hid (join_le h)
  obtain ⟨J, hJ⟩ : ∃ J : ByteArray, J = ⟨(Lib.join ((l.map wordB).map (·.data.toList)) [44]).toArray⟩ := ⟨_, rfl⟩
  have HJ := Lib.hid hJ
  rw [← hJ]
  clear hC hn hV h hne hT hlen hJ
  go_enter Tryd.func53, Tryd.ntmps53
  go_wp2_with fail
  (with_reducible refine (HR.out.app _ HV.out).mono ?_)
  rintro e w1 ⟨rfl, hb1⟩
  have hs1 : W.heap.size + 0 ≤ w1.heap.size := (by have h := hb1.size; first | omega | (simp at h; omega))
  obtain ⟨hc1, hf1, hl1⟩ := bcell hb1
  clear hl1
  have HB1 := Lib.hid (show Below W.heap.size W w1 by (repeat (first | assumption | exact Below.refl _ _ | refine ba ?_ _ | refine bd ?_ | refine bdn ?_ _ | refine bs ?_ (by first | omega | (simp; done) | (simp; omega)) _ | refine bt ?_ (by assumption))))
  clear HV HR
  go_wp2
  go_loopw [3, 14] (fun v i wr => ∃ t : Nat, t ≤ n ∧ i = .int .i64 t ∧ Hid (TS W wr l v t)) (fun _ i _ => n - (intOf i).toNat)
  case atStart => exact ⟨0, Nat.zero_le _, rfl, Lib.hid ⟨World.ownsRow_nil _ _ _ _, HB1.out⟩⟩
  case round =>
    clear HB1
    obtain ⟨t, ht, rfl, HS⟩ := hrel
    rename_i u3 wr
    obtain ⟨w3, rfl⟩ : ∃ w3, w3 = wr := ⟨_, rfl⟩
    have hb3 := HS.out.bel
    have hs3 : W.heap.size + 0 ≤ w3.heap.size := (by have h := hb3.size; first | omega | (simp at h; omega))
    obtain ⟨hc3, hf3, hl3⟩ := bcell hb3
    clear hl3
    by_cases hlt : t < n
    · have hts : (t : Int) < (n : Int) := by omega
      have hll : t < l.length := by rw [← HN.out]; exact hlt
      obtain ⟨b, off, rfl, hb, c0, c1, c2⟩ := HC.out t hlt
      have hbl : b < w3.heap.size := Nat.lt_of_lt_of_le hb hb3.size
      have hpok := HP.out.1 _ (List.getElem_mem hll)
      rw [kra hll] at hpok
      obtain ⟨⟨k0, k1, r0, r1⟩, a0, a1⟩ := hpok
      simp only at k0 k1 r0 r1 a0 a1
      have HW := Lib.hid (show wcells (l.take (t + 1)) = wcells (l.take t) ++ [.string (sT (kk l t).toNat (rr l t).toNat ++ ⟨#[58]⟩ ++ qT (aa l t).toNat)] by
        rw [take_succ' hll]; simp [wcells, wordB])
      obtain ⟨k, hk⟩ : ∃ k : Nat, kk l t = k := ⟨(kk l t).toNat, by omega⟩
      obtain ⟨r, hr⟩ : ∃ r : Nat, rr l t = r := ⟨(rr l t).toNat, by omega⟩
      obtain ⟨x, hx⟩ : ∃ x : Nat, aa l t = x := ⟨(aa l t).toNat, by omega⟩
      rw [hk] at c0 k0 k1; rw [hr] at c1 r0 r1; rw [hx] at c2 a0 a1
      rw [hk, hr, hx, Int.toNat_natCast, Int.toNat_natCast, Int.toNat_natCast] at HW
      have HS1 := slottext_yes k r (by omega) (by omega)
      have HQ1 := qtext_yes x (by omega)
      have z1 := sT_size k r (by omega)
      have z2 := qT_size x (by omega)
      generalize sT k r = S at *
      generalize qT x = Q at *
      have z3 : (ByteArray.mk #[58]).size = 1 := rfl
      have y1 : S.size + (ByteArray.mk #[58]).size ≤ 9223372036854775807 := by omega
      have y2 : (S ++ ⟨#[58]⟩).size + Q.size ≤ 9223372036854775807 := by rw [ByteArray.size_append]; omega
      have y3 : S.size + 1 ≤ 9223372036854775807 := by omega
      have y4 : S.size + 1 + Q.size ≤ 9223372036854775807 := by omega
      have y5 : (9223372036854775807 < S.size + 1) = False := eq_false (by omega)
      have y6 : (9223372036854775807 < S.size + 1 + Q.size) = False := eq_false (by omega)
      have HS1 := Lib.hid HS1; have HQ1 := Lib.hid HQ1
      have HO := Lib.hid (vecof_any (k : Int) (r : Int) (x : Int))
      clear hk hr hx k0 k1 r0 r1 a0 a1 z1 z2 z3 hll
      have hrow3 : u3.ownBlock ≠ some w3.heap.size := fun e => by have := (HS.out.own.lt _ e).2; omega
      have hbG : ∀ (o : Obj) (y : Mix.ExtG (w3.alloc o) u3.ownBlock), Below W.heap.size W (Mix.extG (w3.alloc o) u3.ownBlock y) := fun o y => Below.grown (show Below W.heap.size W (w3.alloc o) by (repeat (first | assumption | exact Below.refl _ _ | refine ba ?_ _ | refine bd ?_ | refine bdn ?_ _ | refine bs ?_ (by first | omega | (simp; done) | (simp; omega)) _ | refine bt ?_ (by assumption)))) (Mix.extG_grown _ _ y) (by simp; omega) (fun j hj => (HS.out.own.lt j hj).1)
      have HBG := Lib.hid hbG
      have HNG := Lib.hid fun (o : Obj) (y : Mix.ExtG (w3.alloc o) u3.ownBlock) => And.right (clo_TN _ _ HTN.out (hbG o y))
      have HTG := Lib.hid fun (o : Obj) (y : Mix.ExtG (w3.alloc o) u3.ownBlock) => And.left (clo_TN _ _ HTN.out (hbG o y))
      clear hbG
      go_wp2_with fail
      refine Mix.regionG u3.ownBlock (by kernel_rfl) ?_
      intro w4 hb4
      have hs4 : w3.heap.size + 1 ≤ w4.heap.size := (by have h := hb4.size; first | omega | (simp at h; omega))
      have hb3_4 := bel hb3 hb4 (by (repeat (first | assumption | exact Below.refl _ _ | refine ba ?_ _ | refine bd ?_ | refine bdn ?_ _ | refine bs ?_ (by first | omega | (simp; done) | (simp; omega)) _ | refine bt ?_ (by assumption))))
      clear hc3 hf3
      have hz4_0 : w3.heap.size < w4.heap.size := (by omega)
      obtain ⟨hc4, hf4, hl4⟩ := bcell hb4
      clear hl4
      refine Mix.take_exG _ _ 0 rfl (by kernel_rfl) (by kernel_rfl) (by kernel_rfl) (by kernel_rfl) (fun K hK => ?_)
      go_simp
      first | (refine hK _ ?_; clear hK K) | (apply Exists.intro; refine ⟨fun x => ?_, hK _ ?_⟩; ((go_at_call 42; with_reducible exact HO.out _)); clear hK K)
      refine Mix.take_exG _ _ 1 rfl (by kernel_rfl) (by kernel_rfl) (by kernel_rfl) (by kernel_rfl) (fun K hK => ?_)
      go_simp
      first | (refine hK _ ?_; clear hK K) | (apply Exists.intro; refine ⟨fun x => ?_, hK _ ?_⟩; ((go_at_call 42; with_reducible exact HO.out _)); clear hK K)
      refine Mix.take_exG _ _ 2 rfl (by kernel_rfl) (by kernel_rfl) (by kernel_rfl) (by kernel_rfl) (fun K hK => ?_)
      go_simp
      first | (refine hK _ ?_; clear hK K) | (apply Exists.intro; refine ⟨fun x => ?_, hK _ ?_⟩; ((go_at_call 42; with_reducible exact HO.out _)); clear hK K)
      refine Mix.take_exG _ _ 3 rfl (by kernel_rfl) (by kernel_rfl) (by kernel_rfl) (by kernel_rfl) (fun K hK => ?_)
      go_simp
      first | (refine hK _ ?_; clear hK K) | (apply Exists.intro; refine ⟨fun x => ?_, hK _ ?_⟩; ((go_at_call 67; with_reducible exact HS1.out.app _ (HNG.out _ _))); clear hK K)
      refine Mix.take_exG _ _ 4 rfl (by kernel_rfl) (by kernel_rfl) (by kernel_rfl) (by kernel_rfl) (fun K hK => ?_)
      go_simp
      first | (refine hK _ ?_; clear hK K) | (apply Exists.intro; refine ⟨fun x => ?_, hK _ ?_⟩; (fail); clear hK K)
      refine Mix.take_exG _ _ 5 rfl (by kernel_rfl) (by kernel_rfl) (by kernel_rfl) (by kernel_rfl) (fun K hK => ?_)
      go_simp
      first | (refine hK _ ?_; clear hK K) | (apply Exists.intro; refine ⟨fun x => ?_, hK _ ?_⟩; (fail); clear hK K)
      refine Mix.take_exG _ _ 6 rfl (by kernel_rfl) (by kernel_rfl) (by kernel_rfl) (by kernel_rfl) (fun K hK => ?_)
      go_simp
      first | (refine hK _ ?_; clear hK K) | (apply Exists.intro; refine ⟨fun x => ?_, hK _ ?_⟩; (fail); clear hK K)
      refine Mix.take_exG _ _ 7 rfl (by kernel_rfl) (by kernel_rfl) (by kernel_rfl) (by kernel_rfl) (fun K hK => ?_)
      go_simp
      first | (refine hK _ ?_; clear hK K) | (apply Exists.intro; refine ⟨fun x => ?_, hK _ ?_⟩; ((go_at_call 68; with_reducible exact HQ1.out.app _ (HTG.out _ _))); clear hK K)
      refine Mix.take_exG _ _ 8 rfl (by kernel_rfl) (by kernel_rfl) (by kernel_rfl) (by kernel_rfl) (fun K hK => ?_)
      go_simp
      first | (refine hK _ ?_; clear hK K) | (apply Exists.intro; refine ⟨fun x => ?_, hK _ ?_⟩; (fail); clear hK K)
      refine Mix.all (rs := [9]) (by kernel_rfl) (by simp) (Mix.grown_of _ (by (repeat (first | assumption | exact Below.refl _ _ | refine ba ?_ _ | refine bd ?_ | refine bdn ?_ _ | refine bs ?_ (by first | omega | (simp; done) | (simp; omega)) _ | refine bt ?_ (by assumption))))) ?_
      intro i5 hi5 w5 hb5 hC5
      clear hC5
      have hs5 : w4.heap.size + 0 ≤ w5.heap.size := (by have h := hb5.size; first | omega | (simp at h; omega))
      have hb3_5 := bel hb3_4 hb5 (by (repeat (first | assumption | exact Below.refl _ _ | refine ba ?_ _ | refine bd ?_ | refine bdn ?_ _ | refine bs ?_ (by first | omega | (simp; done) | (simp; omega)) _ | refine bt ?_ (by assumption))))
      have hb4_5 := bel hb4 hb5 (by (repeat (first | assumption | exact Below.refl _ _ | refine ba ?_ _ | refine bd ?_ | refine bdn ?_ _ | refine bs ?_ (by first | omega | (simp; done) | (simp; omega)) _ | refine bt ?_ (by assumption))))
      clear hz4_0 hc4 hf4
      obtain ⟨hc4_5, hf4_5, hl4_5⟩ := bcell hb4_5
      clear hl4_5
      have hz5_0 : w3.heap.size < w5.heap.size := (by omega)
      obtain ⟨hc5, hf5, hl5⟩ := bcell hb5
      clear hl5
      simp only [List.mem_cons, List.not_mem_nil, or_false] at hi5
      subst hi5
      refine Mix.op rfl (by kernel_rfl) ?_
      go_simp
      refine Mix.all (rs := [10]) (by kernel_rfl) (by simp) (Mix.grown_of _ (by (repeat (first | assumption | exact Below.refl _ _ | refine ba ?_ _ | refine bd ?_ | refine bdn ?_ _ | refine bs ?_ (by first | omega | (simp; done) | (simp; omega)) _ | refine bt ?_ (by assumption))))) ?_
      intro i6 hi6 w6 hb6 hC6
      clear hC6
      have hs6 : w5.heap.size + 1 ≤ w6.heap.size := (by have h := hb6.size; first | omega | (simp at h; omega))
      have hb3_6 := bel hb3_5 hb6 (by (repeat (first | assumption | exact Below.refl _ _ | refine ba ?_ _ | refine bd ?_ | refine bdn ?_ _ | refine bs ?_ (by first | omega | (simp; done) | (simp; omega)) _ | refine bt ?_ (by assumption))))
      have hb4_6 := bel hb4_5 hb6 (by (repeat (first | assumption | exact Below.refl _ _ | refine ba ?_ _ | refine bd ?_ | refine bdn ?_ _ | refine bs ?_ (by first | omega | (simp; done) | (simp; omega)) _ | refine bt ?_ (by assumption))))
      have hb5_6 := bel hb5 hb6 (by (repeat (first | assumption | exact Below.refl _ _ | refine ba ?_ _ | refine bd ?_ | refine bdn ?_ _ | refine bs ?_ (by first | omega | (simp; done) | (simp; omega)) _ | refine bt ?_ (by assumption))))
      clear hc4_5 hf4_5 hz5_0 hc5 hf5
      obtain ⟨hc4_6, hf4_6, hl4_6⟩ := bcell hb4_6
      clear hl4_6
      have hz6_0 : w3.heap.size < w6.heap.size := (by omega)
      have hz6_1 : w5.heap.size < w6.heap.size := (by omega)
      obtain ⟨hc6, hf6, hl6⟩ := bcell hb6
      clear hl6
      simp only [List.mem_cons, List.not_mem_nil, or_false] at hi6
      subst hi6
      refine Mix.op rfl (by kernel_rfl) ?_
      have hx0 : w6.cell? ⟨w5.heap.size, 0, none⟩ = some (.string (S ++ ⟨#[58]⟩ ++ Q)) := by rw [hc6 _ _ (by simp)]; simp [go_sem]
      have HB7 := Lib.hid (show Below W.heap.size W w6 by (repeat (first | assumption | exact Below.refl _ _ | refine ba ?_ _ | refine bd ?_ | refine bdn ?_ _ | refine bs ?_ (by first | omega | (simp; done) | (simp; omega)) _ | refine bt ?_ (by assumption))))
      have HA6 := Lib.hid (show Below (w3.alloc (.cells #[.int .i64 k, .int .i64 r, .int .i64 x] 64)).heap.size (w3.alloc (.cells #[.int .i64 k, .int .i64 r, .int .i64 x] 64)) w6 by (repeat (first | assumption | exact Below.refl _ _ | refine ba ?_ _ | refine bd ?_ | refine bdn ?_ _ | refine bs ?_ (by first | omega | (simp; done) | (simp; omega)) _ | refine bt ?_ (by assumption))))
      have HB6 := Lib.hid (show Below w3.heap.size w3 w6 from bt (ba (Below.refl _ _) _) HA6.out)
      refine append_str _ _ rfl (v := u3) rfl (b := w5.heap.size) (c := 1) rfl (rowP_grow HS.out.own HB6.out) hx0 (by omega) HB7.out.size ?_
      intro v7 w7 hv7 hg7
      have HV7 := Lib.hid hv7; have HG7 := Lib.hid hg7
      clear hv7 hg7 hx0
      go_simp
      refine Mix.all (rs := [11]) (by kernel_rfl) (by simp) ((Mix.grown_of _ HA6.out).trans HG7.out) ?_
      intro i8 hi8 w8 hb8 hC8
      simp only [List.mem_cons, List.not_mem_nil, or_false] at hi8
      subst hi8
      refine Mix.op rfl (by kernel_rfl) ?_
      go_simp
      refine Mix.done (by kernel_rfl) hC8 ?_
      intro w9 hb9
      have HB9 := Lib.hid (show Below w7.heap.size w7 w9 from bt hb8 hb9)
      clear hC8 hb8 hb9
      go_wp2
      go_roundw
      case rel => exact ⟨t + 1, by omega, by go_num, Lib.hid ⟨by rw [HW.out]; exact rowP_grow HV7.out HB9.out, bt (HB7.out.grown HG7.out HB7.out.size (fun k hk => (HS.out.own.lt k hk).1)) HB9.out⟩⟩
      case measure => simp [intOf]; omega
    · obtain rfl : n = t := by omega
      have hown := HS.out.own
      rw [show l.take n = l from by rw [HN.out]; exact List.take_length] at hown
      obtain ⟨g, cp, rfl, hgl, hcp⟩ : ∃ g cp, u3 = .slice (some ⟨g, 0, none⟩) n cp ∧ g < w3.heap.size ∧ n ≤ cp := by
        rcases hown.2 with ⟨_, e2⟩ | ⟨g, cp, cur, e1, _, _, e3, _⟩
        · omega
        · exact ⟨g, cp, e1, (hown.lt g (by rw [e1]; rfl)).2, e3⟩
      have HJN := Lib.hid (show ∀ w, Below w3.heap.size w3 w → Calls Tryd.prog 69 #[.slice (some ⟨g, 0, none⟩) n cp, .string ⟨#[44]⟩] w fun e w' => e = .returned (.string J) ∧ Below w.heap.size w w' from fun w hb => by
        have hx : (l.map wordB).length = n := by rw [List.length_map, HN.out]
        have hh := Lb.Tryd.strings_Join g 0 cp (l.map wordB) ⟨#[44]⟩ w (fun j y hj => by
          have hjn : j < n := by
            rcases Nat.lt_or_ge j (l.map wordB).length with h' | h'
            · omega
            · rw [List.getElem?_eq_none h'] at hj; cases hj
          have h1 := World.ownsRow.cellAt (rowP_grow hown hb) j (by omega)
          rw [Nat.zero_add, h1]
          simp only [wcells, List.getElem?_map] at hj ⊢
          cases hq : l[j]? with
          | none => rw [hq] at hj; cases hj
          | some p => rw [hq] at hj; simp at hj; simp [hj]) (Nat.lt_of_lt_of_le hgl hb.size) (by omega) (by omega) HJL.out
        rw [hx] at hh
        rw [HJ.out]; exact hh)
      clear hown
      go_wp2_with fail
      (with_reducible refine (HJN.out _ (by (repeat (first | assumption | exact Below.refl _ _ | refine ba ?_ _ | refine bd ?_ | refine bdn ?_ _ | refine bs ?_ (by first | omega | (simp; done) | (simp; omega)) _ | refine bt ?_ (by assumption))))).mono ?_)
      rintro e w4 ⟨rfl, hb4⟩
      have hs4 : w3.heap.size + 0 ≤ w4.heap.size := (by have h := hb4.size; first | omega | (simp at h; omega))
      have hb3_4 := bel hb3 hb4 (by (repeat (first | assumption | exact Below.refl _ _ | refine ba ?_ _ | refine bd ?_ | refine bdn ?_ _ | refine bs ?_ (by first | omega | (simp; done) | (simp; omega)) _ | refine bt ?_ (by assumption))))
      clear hc3 hf3
      obtain ⟨hc4, hf4, hl4⟩ := bcell hb4
      clear hl4
      go_wp2
      go_ret
      exact ⟨rfl, bt hb3 (by (repeat (first | assumption | exact Below.refl _ _ | refine ba ?_ _ | refine bd ?_ | refine bdn ?_ _ | refine bs ?_ (by first | omega | (simp; done) | (simp; omega)) _ | refine bt ?_ (by assumption))))⟩
theorem vtext_nil (v : Value) (W : World) (hV : Vc W v []) : Calls Tryd.prog 53 #[v] W fun e w' => e = .returned (.string ⟨#[45]⟩) ∧ Below W.heap.size W w' := by
  have HR := vecright_v v [] (by simp)
  rw [decide_eq_true VR.nil] at HR
  have HR := Lib.hid HR
  have HV := Lib.hid hV
  obtain ⟨a, cap, rfl⟩ := hV.empty
  clear hV
  go_enter Tryd.func53, Tryd.ntmps53
  go_wp2_with fail
  (with_reducible refine (HR.out.app _ HV.out).mono ?_)
  rintro e w1 ⟨rfl, hb1⟩
  have hs1 : W.heap.size + 0 ≤ w1.heap.size := (by have h := hb1.size; first | omega | (simp at h; omega))
  obtain ⟨hc1, hf1, hl1⟩ := bcell hb1
  clear hl1
  go_wp2
  go_ret
  refine ⟨rfl, ?_⟩
  (repeat (first | assumption | exact Below.refl _ _ | refine ba ?_ _ | refine bd ?_ | refine bdn ?_ _ | refine bs ?_ (by first | omega | (simp; done) | (simp; omega)) _ | refine bt ?_ (by assumption)))
theorem vtext_no (v : Value) (l : List Pt) (hl : l.length < 1000000000) (h : ¬ VR l) (W : World) (hV : Vc W v l) : Calls Tryd.prog 53 #[v] W fun e w' => e = .returned (.string ⟨#[]⟩) ∧ Below W.heap.size W w' := by
  have HR := vecright_v v l hl
  rw [decide_eq_false h] at HR
  have HR := Lib.hid HR
  have HV := Lib.hid hV
  clear hV h
  go_enter Tryd.func53, Tryd.ntmps53
  go_wp2_with fail
  (with_reducible refine (HR.out.app _ HV.out).mono ?_)
  rintro e w1 ⟨rfl, hb1⟩
  have hs1 : W.heap.size + 0 ≤ w1.heap.size := (by have h := hb1.size; first | omega | (simp at h; omega))
  obtain ⟨hc1, hf1, hl1⟩ := bcell hb1
  clear hl1
  go_wp2
  go_ret
  refine ⟨rfl, ?_⟩
  (repeat (first | assumption | exact Below.refl _ _ | refine ba ?_ _ | refine bd ?_ | refine bdn ?_ _ | refine bs ?_ (by first | omega | (simp; done) | (simp; omega)) _ | refine bt ?_ (by assumption)))
theorem vtext_any (v : Value) (l : List Pt) (hl : l.length < 1000000000) : PureOn (fun w => Vc w v l ∧ TN w) Tryd.prog 53 #[v] (.string (textV l)) := fun W ⟨hV, hT⟩ => by
  unfold textV
  by_cases h : VR l
  · rw [if_pos h]
    by_cases he : l = []
    · subst he; rw [if_pos rfl]; exact vtext_nil v W hV
    · rw [if_neg he]; exact vtext_cons v l h he W hV hT
  · rw [if_neg h]; exact vtext_no v l hl h W hV
end Go.Proofs.YtlhljioncgddeaaDoor
