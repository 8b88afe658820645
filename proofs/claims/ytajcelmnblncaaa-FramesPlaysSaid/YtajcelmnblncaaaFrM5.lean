/- The document's frameworks by a list: subscribe. -/
import Derived.Test.YtajcelmnblncaaaFrM4
namespace Go.Proofs.Ytajcelmnblncaaa
open Go.RowKit Go.Maps
attribute [local go_sem] ext_cell ext_frozen extC_cell extC_frozen Mix.calmUpon Mix.mUpon eqFr
/-- A block that holds an act. -/
def AB (w : World) (b : Nat) (a : FAct) : Prop := w.heap[b]? = some (.cells #[.int .i64 a.kind, .int .i64 a.id, .int .i64 a.role, .int .i64 a.weight, .int .i64 a.time] 110 (0, 0))
theorem AB.chg {F : Nat → Prop} {w w' : World} {b : Nat} {a : FAct} (h : AB w b a) (hb : Chg F w w') (hf : ¬ F b) : AB w' b a := (hb.block _ (Array.getElem?_eq_some_iff.1 h).1 hf).trans h
theorem AB.below {w w' : World} {b : Nat} {a : FAct} (h : AB w b a) (hb : Below w.heap.size w w') : AB w' b a := h.chg (.of_below (fun _ => False) hb) id
theorem AB.cells {w : World} {b : Nat} {a : FAct} (h : AB w b a) : w.cell? ⟨b, 0, none⟩ = some (.int .i64 a.kind) ∧ w.cell? ⟨b, 1, none⟩ = some (.int .i64 a.id) ∧ w.cell? ⟨b, 2, none⟩ = some (.int .i64 a.role) ∧ w.cell? ⟨b, 3, none⟩ = some (.int .i64 a.weight) ∧ w.cell? ⟨b, 4, none⟩ = some (.int .i64 a.time) := by
  unfold AB at h; simp [World.cell?, h]
/-- The blocks of a call: the list, the act, the answer. -/
structure SC (w wr : World) (b b1 b2 : Nat) (cap : Int) (v : Value) (a : FAct) : Prop where
  m2 : MB wr b cap v
  a3 : AB wr b1 a
  m4 : MB wr b2 0 (.slice none 0 0)
  bel : Below b w wr
  ds : b < b1 ∧ b1 < b2 ∧ b2 < wr.heap.size
theorem SC.on {w wr wr' : World} {b b1 b2 : Nat} {cap : Int} {v : Value} {a : FAct} (h : SC w wr b b1 b2 cap v a) (hb : Below wr.heap.size wr wr') : SC w wr' b b1 b2 cap v a :=
  ⟨h.m2.below hb, h.a3.below hb, h.m4.below hb, h.bel.trans (hb.mono (by have := h.ds; omega)), by have := h.ds; have := hb.size; omega⟩
theorem SC.start (w : World) (cap : Int) (v : Value) (a : FAct) : SC w (((w.alloc (.cells #[.int .i64 cap, v] 106)).alloc (.cells #[.int .i64 a.kind, .int .i64 a.id, .int .i64 a.role, .int .i64 a.weight, .int .i64 a.time] 110)).alloc (.cells #[.int .i64 0, .slice none 0 0] 106)) w.heap.size (w.heap.size + 1) (w.heap.size + 1 + 1) cap v a := by
  have s1 : (w.alloc (.cells #[.int .i64 cap, v] 106)).heap.size = w.heap.size + 1 := by simp
  have s2 : ((w.alloc (.cells #[.int .i64 cap, v] 106)).alloc (.cells #[.int .i64 a.kind, .int .i64 a.id, .int .i64 a.role, .int .i64 a.weight, .int .i64 a.time] 110)).heap.size = w.heap.size + 1 + 1 := by simp
  refine ⟨(MB.made w cap _).below (ba (ba (Below.refl _ _) _) _), ?_, ?_, ba (ba (ba (Below.refl _ _) _) _) _, by simp⟩
  · have : AB ((w.alloc (.cells #[.int .i64 cap, v] 106)).alloc (.cells #[.int .i64 a.kind, .int .i64 a.id, .int .i64 a.role, .int .i64 a.weight, .int .i64 a.time] 110)) (w.heap.size + 1) a := by
      have := heap_alloc_new (w.alloc (.cells #[.int .i64 cap, v] 106)) (.cells #[.int .i64 a.kind, .int .i64 a.id, .int .i64 a.role, .int .i64 a.weight, .int .i64 a.time] 110)
      rw [s1] at this; exact this
    exact this.below (ba (Below.refl _ _) _)
  · have := MB.made ((w.alloc (.cells #[.int .i64 cap, v] 106)).alloc (.cells #[.int .i64 a.kind, .int .i64 a.id, .int .i64 a.role, .int .i64 a.weight, .int .i64 a.time] 110)) 0 (.slice none 0 0)
    rw [s2] at this
    exact this
theorem res_m3 {fn : Func} {tmps : Array Value} {w : World} {p u z b : Nat} {cap : Int} {v : Value} (h : fn.results = #[.cell p 106, .tmp u, .tmp z]) (hp : tmps.getD p undef = .pointer (some ⟨b, 0, none⟩)) (hb : MB w b cap v) :
    (results fn tmps).run Try.prog w = .ok (.tuple #[mval cap v, tmps.getD u undef, tmps.getD z undef]) w := by
  simp only [results, h]
  have hp' : tmps[p]?.getD undef = .pointer (some ⟨b, 0, none⟩) := by simpa [Array.getD_eq_getD_getElem?] using hp
  simp [Sem.run_bind, Result.andThen, hp', asAddr, hb.load]
/-- A list, and what was done, that a call answers. -/
def RetS (w : World) (v : Value) (cap : Int) (r : List Fr × Bool × Int) (e : Ending) (w' : World) : Prop :=
  ∃ v', e = .returned (.tuple #[mval cap v', .bool r.2.1, .int .i64 r.2.2]) ∧ FV w' v' r.1 ∧ (∀ b, v'.ownBlock = some b → v.ownBlock = some b ∨ (w.heap.size ≤ b ∧ b < w'.heap.size)) ∧ Below w.heap.size w w'
theorem MB.made2 (w : World) (o1 o2 : Obj) (cap : Int) (v : Value) : MB (((w.alloc o1).alloc o2).alloc (.cells #[.int .i64 cap, v] 106)) (w.heap.size + 1 + 1) cap v := by
  have := MB.made ((w.alloc o1).alloc o2) cap v
  rw [show ((w.alloc o1).alloc o2).heap.size = w.heap.size + 1 + 1 by simp] at this
  exact this
section
variable {w : World} {v : Value} {S : List Fr} {cap : Int}
set_option maxRecDepth 100000 in
set_option maxHeartbeats 4000000 in
theorem msub_bad (h : FV w v S) (x : FAct) (hb : subBad x) : Calls Try.prog 98 #[mval cap v, aval x] w (RetS w v cap (S, false, 41)) := by
  have HV := Lib.hid h
  obtain ⟨a, n, cp, rfl, hn, hc, hm, hat⟩ := h.at_
  obtain ⟨xk, xi, xr, xw, xt⟩ := x
  unfold subBad at hb
  simp only at hb
  clear h hat hn
  by_cases h1 : xi < 1
  · clear hb
    go_enter Try.func98, Try.ntmps98
    go_wp2
    refine bodyPost_ret (res_m3 Try.results98 rfl (MB.made2 w _ _ cap (.slice a n cp))) rfl ?_
    exact ⟨_, rfl, HV.out.below (ba (ba (ba (Below.refl _ _) _) _) _), fun k hk => .inl hk, ba (ba (ba (Below.refl _ _) _) _) _⟩
  · by_cases h2 : xr < 1
    · clear hb
      go_enter Try.func98, Try.ntmps98
      go_wp2
      refine bodyPost_ret (res_m3 Try.results98 rfl (MB.made2 w _ _ cap (.slice a n cp))) rfl ?_
      exact ⟨_, rfl, HV.out.below (ba (ba (ba (Below.refl _ _) _) _) _), fun k hk => .inl hk, ba (ba (ba (Below.refl _ _) _) _) _⟩
    · by_cases h3 : 32 < xr
      · clear hb
        go_enter Try.func98, Try.ntmps98
        go_wp2
        refine bodyPost_ret (res_m3 Try.results98 rfl (MB.made2 w _ _ cap (.slice a n cp))) rfl ?_
        exact ⟨_, rfl, HV.out.below (ba (ba (ba (Below.refl _ _) _) _) _), fun k hk => .inl hk, ba (ba (ba (Below.refl _ _) _) _) _⟩
      · by_cases h4 : xw < 1
        · clear hb
          go_enter Try.func98, Try.ntmps98
          go_wp2
          refine bodyPost_ret (res_m3 Try.results98 rfl (MB.made2 w _ _ cap (.slice a n cp))) rfl ?_
          exact ⟨_, rfl, HV.out.below (ba (ba (ba (Below.refl _ _) _) _) _), fun k hk => .inl hk, ba (ba (ba (Below.refl _ _) _) _) _⟩
        · by_cases h5 : 1000 < xw
          · clear hb
            go_enter Try.func98, Try.ntmps98
            go_wp2
            refine bodyPost_ret (res_m3 Try.results98 rfl (MB.made2 w _ _ cap (.slice a n cp))) rfl ?_
            exact ⟨_, rfl, HV.out.below (ba (ba (ba (Below.refl _ _) _) _) _), fun k hk => .inl hk, ba (ba (ba (Below.refl _ _) _) _) _⟩
          · by_cases h6 : xt < 0
            · clear hb
              go_enter Try.func98, Try.ntmps98
              go_wp2
              refine bodyPost_ret (res_m3 Try.results98 rfl (MB.made2 w _ _ cap (.slice a n cp))) rfl ?_
              exact ⟨_, rfl, HV.out.below (ba (ba (ba (Below.refl _ _) _) _) _), fun k hk => .inl hk, ba (ba (ba (Below.refl _ _) _) _) _⟩
            · have h7 : 9007199254740992 < xt := by omega
              clear hb
              go_enter Try.func98, Try.ntmps98
              go_wp2
              refine bodyPost_ret (res_m3 Try.results98 rfl (MB.made2 w _ _ cap (.slice a n cp))) rfl ?_
              exact ⟨_, rfl, HV.out.below (ba (ba (ba (Below.refl _ _) _) _) _), fun k hk => .inl hk, ba (ba (ba (Below.refl _ _) _) _) _⟩
end
end Go.Proofs.Ytajcelmnblncaaa
