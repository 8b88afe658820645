/- tasks: a table told by its plain list; launching and ending by it. -/
import Derived.Test.YtnckjacbkhoppaaTa7
import Derived.Test.YtnckjacbkhoppaaVecN
namespace Go.Proofs.Ytnckjacbkhoppaa
open Go.RowKit Go.Maps
/-- A plain task that may be launched. -/
def PkOk (x : Pk) : Prop := 1 ≤ x.1 ∧ 1 ≤ x.2.1 ∧ 1 ≤ x.2.2.1 ∧ x.2.2.2 ≠ [] ∧ VR x.2.2.2
instance (x : Pk) : Decidable (PkOk x) := by unfold PkOk; infer_instance
theorem pkok_iff {x : Tk} : TOk x ↔ PkOk x.pl := Iff.rfl
/-- What launching answers, and what it leaves. -/
def lauE (cap : Int) (P : List Pk) (x : Pk) : Int := if PkOk x then (if (fndK P (pkey x)).isSome then 42 else if cap ≤ (P.length : Nat) then 32 else 0) else 41
def lauP (cap : Int) (P : List Pk) (x : Pk) : List Pk := if PkOk x then (if (fndK P (pkey x)).isSome then P else if cap ≤ (P.length : Nat) then P else putK P x) else P
theorem lauP_len {cap : Int} {P : List Pk} {x : Pk} : (lauP cap P x).length ≤ P.length + 1 := by
  unfold lauP; split
  · split
    · omega
    · split
      · omega
      · exact Srt.put_le P x
  · omega
theorem delK_len {P : List Pk} {k : K2} : (delK P k).length ≤ P.length := List.length_filter_le _ _
theorem ordK : Srt.Ord pkey ltK where
  irr := fun a => by simp [ltK, ltI]
  trans := fun a b c h k => by simp only [ltK, ltI, decide_eq_true_eq] at *; omega
  tot := fun a b h hne => by
    have h' : ¬ (a.1 = b.1 ∧ a.2.1 = b.2.1) := fun e => hne (by show (⟨a.1, a.2.1⟩ : K2) = ⟨b.1, b.2.1⟩; rw [e.1, e.2])
    simp only [ltK, ltI, decide_eq_true_eq, decide_eq_false_iff_not] at *
    omega
/-- A plain list of tasks, as a table keeps them. -/
structure PIn (P : List Pk) : Prop where
  srt : Srt.In pkey ltK P
  ok : ∀ x ∈ P, PkOk x ∧ I64 x.1 ∧ I64 x.2.1 ∧ I64 x.2.2.1 ∧ I64s x.2.2.2
theorem PIn.nil : PIn [] := ⟨Srt.In.nil, fun x h => by cases h⟩
theorem PIn.del {P : List Pk} (h : PIn P) (k : K2) : PIn (delK P k) := ⟨h.srt.del k, fun x hx => h.ok x (Srt.mem_del.1 hx).1⟩
theorem PIn.lau {P : List Pk} (h : PIn P) {cap : Int} {x : Pk} (hx : I64 x.1 ∧ I64 x.2.1 ∧ I64 x.2.2.1 ∧ I64s x.2.2.2) : PIn (lauP cap P x) := by
  unfold lauP; split
  · rename_i hok
    split
    · exact h
    · split
      · exact h
      · refine ⟨h.srt.put ordK x, fun y hy => ?_⟩
        rcases Srt.mem_put.1 hy with rfl | ⟨hy, _⟩
        · exact ⟨hok, hx⟩
        · exact h.ok y hy
  · exact h
/-- Block tp is a table of the plain tasks P; its vectors lie in blocks of V. -/
def TV (w : World) (B tp M : Nat) (cap : Int) (P : List Pk) (V : Nat → Prop) : Prop :=
  ∃ S L, TT w B tp M cap S L ∧ S.map Tk.pl = P ∧ PIn P ∧ ∀ x ∈ S, ∀ b, x.vv.ownBlock = some b → V b ∧ b < w.heap.size
section
variable {w w' : World} {B tp M : Nat} {cap : Int} {P : List Pk} {V : Nat → Prop}
theorem TV.lt (h : TV w B tp M cap P V) : tp < w.heap.size ∧ M < w.heap.size ∧ tp ≠ M ∧ B ≤ tp ∧ B ≤ M := by
  obtain ⟨S, L, h, -⟩ := h; exact ⟨h.lt.1, h.lt.2, h.hM⟩
theorem TV.pin (h : TV w B tp M cap P V) : PIn P := by obtain ⟨S, L, -, -, h, -⟩ := h; exact h
theorem TV.chg {G : Nat → Prop} (h : TV w B tp M cap P V) (hc : Chg G w w') (h1 : ¬ G tp) (h2 : ¬ G M) (h3 : ∀ b, V b → b < w.heap.size → ¬ G b) : TV w' B tp M cap P V := by
  obtain ⟨S, L, h, hp, hi, hv⟩ := h
  exact ⟨S, L, h.chg hc h1 h2 fun x hx b hb => h3 b (hv x hx b hb).1 (hv x hx b hb).2, hp, hi, fun x hx b hb => ⟨(hv x hx b hb).1, Nat.lt_of_lt_of_le (hv x hx b hb).2 hc.size⟩⟩
theorem TV.below (h : TV w B tp M cap P V) (hb : Below w.heap.size w w') : TV w' B tp M cap P V := h.chg (G := fun _ => False) (.of_below _ hb) id id fun _ _ _ => id
theorem TV.mono {V' : Nat → Prop} (h : TV w B tp M cap P V) (hv : ∀ b, V b → V' b) : TV w B tp M cap P V' := by
  obtain ⟨S, L, h, hp, hi, h4⟩ := h
  exact ⟨S, L, h, hp, hi, fun x hx b hb => ⟨hv b (h4 x hx b hb).1, (h4 x hx b hb).2⟩⟩
theorem vnew (w : World) {cap : Int} (hc : 1 ≤ cap) : Calls Try.prog 48 #[.int .i64 cap] w fun e w' => e = .returned (ptr (w.heap.size + 1)) ∧ TV w' w.heap.size (w.heap.size + 1) w.heap.size cap [] (fun _ => False) ∧ Below w.heap.size w w' := by
  refine (tnew w hc).mono ?_
  rintro e w' ⟨rfl, h, hb⟩
  exact ⟨rfl, ⟨[], [], h, rfl, PIn.nil, fun x hx => by cases hx⟩, hb⟩
/-- A task that is handed to Launch. -/
structure TGo (w : World) (x : Tk) : Prop where
  vc : Vc w x.vv x.ps
  len : x.ps.length < 1000000
  fr : I64 x.frame
  id : I64 x.id
  ag : I64 x.agent
  i64 : I64s x.ps
theorem TGo.on {x : Tk} (h : TGo w x) (hb : Below w.heap.size w w') : TGo w' x := ⟨h.vc.on hb, h.len, h.fr, h.id, h.ag, h.i64⟩
theorem vlaunch (h : TV w B tp M cap P V) (hB : B ≤ w.heap.size) (x : Tk) (hx : TGo w x) : Calls Try.prog 57 #[ptr tp, tkval x] w fun e w' => e = .returned (.int .i64 (lauE cap P x.pl)) ∧
    TV w' B tp M cap (lauP cap P x.pl) (fun b => V b ∨ w.heap.size ≤ b) ∧ Chg (fun k => k = M) w w' := by
  obtain ⟨S, L, h, hp, hi, hv⟩ := h
  have hlen : S.length = P.length := by rw [← hp, List.length_map]
  have hf : fndK P (pkey x.pl) = (fndT S (tkey x)).map Tk.pl := by rw [← hp]; exact pl_fndT S _
  have keep : ∀ {w'}, Below w.heap.size w w' → TV w' B tp M cap P (fun b => V b ∨ w.heap.size ≤ b) := fun hb => TV.mono (TV.below ⟨S, L, h, hp, hi, hv⟩ hb) fun b hb => .inl hb
  unfold lauE lauP
  by_cases hok : PkOk x.pl
  · rw [if_pos hok, if_pos hok, hf]
    cases hy : fndT S (tkey x) with
    | some y =>
      refine (tlaunch_there h x hx.vc hx.len hok ⟨hx.fr, hx.id⟩ hy).mono ?_
      rintro e w' ⟨rfl, hb⟩
      exact ⟨rfl, keep hb, .of_below _ hb⟩
    | none =>
      simp only [Option.map_none, Option.isSome_none, Bool.false_eq_true, if_false]
      by_cases hc : cap ≤ (P.length : Nat)
      · rw [if_pos hc, if_pos hc]
        refine (tlaunch_cap h x hx.vc hx.len hok ⟨hx.fr, hx.id⟩ hy (by rw [hlen]; exact hc)).mono ?_
        rintro e w' ⟨rfl, hb⟩
        exact ⟨rfl, keep hb, .of_below _ hb⟩
      · rw [if_neg hc, if_neg hc]
        refine (tlaunch_ok h hB x hx.vc hx.len hok ⟨hx.fr, hx.id⟩ hx.ag hy (by rw [hlen]; omega)).mono ?_
        rintro e w' ⟨rfl, u, hT, hu, hch⟩
        have hpin := hi.lau (cap := cap) (x := x.pl) ⟨hx.fr, hx.id, hx.ag, hx.i64⟩
        unfold lauP at hpin
        rw [if_pos hok, hf, hy] at hpin
        simp only [Option.map_none, Option.isSome_none, Bool.false_eq_true, if_false] at hpin
        rw [if_neg hc] at hpin
        refine ⟨rfl, ⟨_, _, hT, ?_, hpin, fun y hy b hb => ?_⟩, hch⟩
        · rw [pl_putT, hp]; rfl
        · rcases Srt.mem_put.1 hy with rfl | ⟨hy, _⟩
          · exact ⟨.inr (hu b hb).1, (hu b hb).2⟩
          · exact ⟨.inl (hv y hy b hb).1, Nat.lt_of_lt_of_le (hv y hy b hb).2 hch.size⟩
  · rw [if_neg hok, if_neg hok]
    refine (tlaunch_arg h x hx.vc hx.len hok).mono ?_
    rintro e w' ⟨rfl, hb⟩
    exact ⟨rfl, keep hb, .of_below _ hb⟩
/-- What Get and End answer. -/
def GotT (w' : World) (P : List Pk) (k : K2) (e : Ending) : Prop := ∃ z : Tk, e = .returned (.tuple #[tkval z, .bool (fndK P k).isSome]) ∧ z.pl = (fndK P k).getD (0, 0, 0, []) ∧ Vc w' z.vv z.ps
theorem vget (h : TV w B tp M cap P V) {f i : Int} (hf : I64 f) (hi : I64 i) : Calls Try.prog 51 #[ptr tp, .int .i64 f, .int .i64 i] w fun e w' => GotT w' P ⟨f, i⟩ e ∧ Below w.heap.size w w' := by
  obtain ⟨S, L, h, hp, _, hv⟩ := h
  have hq : fndK P ⟨f, i⟩ = (fndT S ⟨f, i⟩).map Tk.pl := by rw [← hp]; exact pl_fndT S _
  unfold GotT
  rw [hq]
  cases hy : fndT S ⟨f, i⟩ with
  | none =>
    refine (tget_none h hf hi hy).mono ?_
    rintro e w' ⟨rfl, hb⟩
    exact ⟨⟨⟨0, 0, 0, .slice none 0 0, []⟩, rfl, rfl, Vc.nil _⟩, hb⟩
  | some y =>
    refine (tget_some h hf hi hy).mono ?_
    rintro e w' ⟨u, rfl, hu, hb⟩
    exact ⟨⟨⟨y.frame, y.id, y.agent, u, y.ps⟩, rfl, rfl, hu.vc⟩, hb⟩
theorem vend (h : TV w B tp M cap P V) {f i : Int} (hf : I64 f) (hi : I64 i) : Calls Try.prog 53 #[ptr tp, .int .i64 f, .int .i64 i] w fun e w' => GotT w' P ⟨f, i⟩ e ∧ TV w' B tp M cap (delK P ⟨f, i⟩) V ∧ Chg (fun k => k = M) w w' := by
  have H := h
  obtain ⟨S, L, h, hp, hin, hv⟩ := h
  have hq : fndK P ⟨f, i⟩ = (fndT S ⟨f, i⟩).map Tk.pl := by rw [← hp]; exact pl_fndT S _
  cases hy : fndT S ⟨f, i⟩ with
  | none =>
    have hd : delK P ⟨f, i⟩ = P := Srt.del_same (by rw [hy] at hq; exact hq)
    unfold GotT
    rw [hq, hy, hd]
    refine (tend_none h hf hi hy).mono ?_
    rintro e w' ⟨rfl, hb⟩
    exact ⟨⟨⟨0, 0, 0, .slice none 0 0, []⟩, rfl, rfl, Vc.nil _⟩, H.below hb, .of_below _ hb⟩
  | some y =>
    unfold GotT
    rw [hq, hy]
    refine (tend_some h hf hi hy).mono ?_
    rintro e w' ⟨u, rfl, hu, hT, hch⟩
    refine ⟨⟨⟨y.frame, y.id, y.agent, u, y.ps⟩, rfl, rfl, hu.vc⟩, ⟨_, _, hT, ?_, hin.del _, fun x hx b hb => ?_⟩, hch⟩
    · rw [pl_delT, hp]
    · have := (Srt.mem_del.1 hx).1
      exact ⟨(hv x this b hb).1, Nat.lt_of_lt_of_le (hv x this b hb).2 hch.size⟩
theorem vlong (h : TV w B tp M cap P V) : Calls Try.prog 59 #[ptr tp] w fun e w' => e = .returned (.int .i64 (P.length : Nat)) ∧ w' = w := by
  obtain ⟨S, L, h, hp, _⟩ := h
  have := tlong h
  rw [show S.length = P.length by rw [← hp, List.length_map]] at this
  exact this
end
end Go.Proofs.Ytnckjacbkhoppaa
