/- offers: Issue and Close by the plain list. -/
import Derived.Test.YtnckjacbkhoppaaOf6
namespace Go.Proofs.Ytnckjacbkhoppaa
open Go.RowKit Go.Maps Go.MapKept
/-- What issuing answers, and what it leaves. -/
def issN (great last : Int) (x : Pf) : Int := if PfOk x ∧ last < great then last + 1 else 0
def issE (great last : Int) (x : Pf) : Int := if PfOk x then if last < great then 0 else 34 else 41
def issL (great last : Int) (x : Pf) : Int := if PfOk x ∧ last < great then last + 1 else last
def issP (great last : Int) (P : List Pf) (x : Pf) : List Pf := if PfOk x ∧ last < great then P ++ [(last + 1, x.2)] else P
theorem issP_len {great last : Int} {P : List Pf} {x : Pf} : (issP great last P x).length ≤ P.length + 1 := by
  unfold issP; split <;> simp
theorem delP_len {P : List Pf} {k : Int} : (delP P k).length ≤ P.length := List.length_filter_le _ _
/-- An offer that is handed to Issue. -/
structure OGo (w : World) (tp : Nat) (x : Ofr) : Prop where
  vc : Vc w x.vv x.ps
  vk : VK (fun k => k = tp) x.vv x.ps
  len : x.ps.length < 1000000
  fr : I64 x.frame
  ag : I64 x.agent
  til : I64 x.til
section
variable {w w' : World} {B tp : Nat} {great last : Int} {P : List Pf} {K G : Nat → Prop}
theorem OGo.on {x : Ofr} (h : OGo w tp x) (hb : Below w.heap.size w w') : OGo w' tp x := ⟨h.vc.on hb, h.vk, h.len, h.fr, h.ag, h.til⟩
theorem voissue (h : OV w B tp great last P K) (hB : B ≤ w.heap.size) (x : Ofr) (hx : OGo w tp x) : Calls Try.prog 38 #[ptr tp, .int .i64 x.frame, .int .i64 x.agent, x.vv, .int .i64 x.til] w fun e w' => e = .returned (.tuple #[.int .i64 (issN great last x.pl), .int .i64 (issE great last x.pl)]) ∧
    ∃ K', OV w' B tp great (issL great last x.pl) (issP great last P x.pl) K' ∧ Chg K w w' ∧ ∀ b, K' b → K b ∨ w.heap.size ≤ b := by
  obtain ⟨Mo, Mf, Ma, S, L, F, A, h1, rfl, h3⟩ := h.ot
  have keep : ∀ {w'}, Below w.heap.size w w' → ∃ K', OV w' B tp great last (S.map Ofr.pl) K' ∧ Chg K w w' ∧ ∀ b, K' b → K b ∨ w.heap.size ≤ b := fun hb => ⟨K, h.below hb, .of_below _ hb, fun b hb => .inl hb⟩
  unfold issN issE issL issP
  by_cases hok : PfOk x.pl
  · by_cases hlt : last < great
    · simp only [hok, hlt, and_self, if_true]
      refine (oissue_ok h1 hB x.id x.frame x.agent x.til hx.vc hx.vk hx.len hok hx.fr hx.ag hx.til hlt).mono ?_
      rintro e w' ⟨rfl, uv, F', A', h4, h5, h6⟩
      refine ⟨rfl, fun b => K b ∨ OB tp Mo F' A' (S ++ [⟨last + 1, x.frame, x.agent, uv, x.ps, x.til⟩]) b, ⟨⟨_, _, _, _, _, _, _, h4, by rw [List.map_append]; rfl, fun b hb => .inr hb⟩, fun b hb => ?_⟩, h6.mono fun b hb => h3 b hb, fun b hb => ?_⟩
      · rcases hb with hb | hb
        · exact ⟨(h.hK b hb).1, Nat.lt_of_lt_of_le (h.hK b hb).2 h6.size⟩
        · exact h4.olt hb
      · rcases hb with hb | hb
        · exact .inl hb
        · exact (h5 b hb).imp (h3 b) id
    · simp only [hok, hlt, and_false, if_true, if_false]
      refine (oissue_full h1 x.id x.frame x.agent x.til hx.vc hx.len hok (by omega)).mono ?_
      rintro e w' ⟨rfl, hb⟩
      exact ⟨rfl, keep hb⟩
  · simp only [hok, false_and, if_false]
    refine (oissue_arg h1 x.id x.frame x.agent x.til hx.vc hx.len hok).mono ?_
    rintro e w' ⟨rfl, hb⟩
    exact ⟨rfl, keep hb⟩
theorem voclose (h : OV w B tp great last P K) (hln : P.length < 1000000) {k : Int} (hk : I64 k) : Calls Try.prog 35 #[ptr tp, .int .i64 k] w fun e w' => GotO w w' P k e ∧ OV w' B tp great last (delP P k) K ∧ Chg K w w' := by
  obtain ⟨Mo, Mf, Ma, S, L, F, A, h1, rfl, h3⟩ := h.ot
  unfold GotO
  rw [pl_fndO]
  cases hy : fndO S k with
  | none =>
    have hd : delP (S.map Ofr.pl) k = S.map Ofr.pl := Srt.del_same ((pl_fndO S k).trans (by rw [hy]; rfl))
    rw [hd]
    refine (oclose_none h1 hk hy).mono ?_
    rintro e w' ⟨rfl, hb⟩
    exact ⟨⟨⟨0, 0, 0, .slice none 0 0, [], 0⟩, rfl, rfl, Vc.nil _, fun b hb => by cases hb⟩, h.below hb, .of_below _ hb⟩
  | some y =>
    refine (oclose_some h1 (by rw [List.length_map] at hln; exact hln) hk hy).mono ?_
    rintro e w' ⟨u, rfl, hu, h4, h5⟩
    refine ⟨⟨{ y with vv := u }, rfl, rfl, hu.vc, fun b hb => (hu.lt b hb).1⟩, ⟨⟨_, _, _, _, _, _, _, h4, pl_delO S k, fun b hb => h3 b ?_⟩, fun b hb => ⟨(h.hK b hb).1, Nat.lt_of_lt_of_le (h.hK b hb).2 h5.size⟩⟩, h5.mono fun b hb => h3 b hb⟩
    rcases hb with e | e | e | e | ⟨x, hx, e⟩
    · exact .inl e
    · exact .inr (.inl e)
    · exact .inr (.inr (.inl e))
    · exact .inr (.inr (.inr (.inl e)))
    · exact .inr (.inr (.inr (.inr ⟨x, (Srt.mem_del.1 hx).1, e⟩)))
end
end Go.Proofs.Ytnckjacbkhoppaa
