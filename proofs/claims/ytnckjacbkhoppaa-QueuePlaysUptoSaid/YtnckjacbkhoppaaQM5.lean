/- The document's queues by a list: Open, Shut. -/
import Derived.Test.YtnckjacbkhoppaaQM4
namespace Go.Proofs.Ytnckjacbkhoppaa
open Go.RowKit Go.Maps
attribute [local go_sem] ext_cell ext_frozen extC_cell extC_frozen Mix.calmUpon Mix.mUpon
theorem res_mt {fn : Func} {tmps : Array Value} {w : World} {p u b : Nat} {cap : Int} {v : Value} (h : fn.results = #[.cell p 123, .tmp u]) (hp : tmps.getD p undef = .pointer (some ⟨b, 0, none⟩)) (hb : MB w b cap v) :
    (results fn tmps).run Try.prog w = .ok (.tuple #[mval cap v, tmps.getD u undef]) w := by
  rw [results_cell_tmp h, hp]
  simp [asAddr, Result.andThen, hb.load]
/-- A list with a cap, and one thing more, that a call answers. -/
def RetB (w : World) (v : Value) (cap : Int) (S' : List On) (x : Value) (e : Ending) (w' : World) : Prop :=
  ∃ v', e = .returned (.tuple #[mval cap v', x]) ∧ OV1 w' v' S' ∧ (∀ b, v'.ownBlock = some b → v.ownBlock = some b ∨ (w.heap.size ≤ b ∧ b < w'.heap.size)) ∧ Below w.heap.size w w'
/-- The blocks of a call: the list, the answer. -/
structure SB (w wr : World) (b b2 : Nat) (cap : Int) (v : Value) : Prop where
  m2 : MB wr b cap v
  m4 : MB wr b2 0 (.slice none 0 0)
  bel : Below b w wr
  ds : b < b2 ∧ b2 < wr.heap.size
theorem SB.on {w wr wr' : World} {b b2 : Nat} {cap : Int} {v : Value} (h : SB w wr b b2 cap v) (hb : Below wr.heap.size wr wr') : SB w wr' b b2 cap v :=
  ⟨h.m2.below hb, h.m4.below hb, h.bel.trans (hb.mono (by have := h.ds; omega)), by have := h.ds; have := hb.size; omega⟩
theorem SB.start (w : World) (cap : Int) (v : Value) : SB w ((w.alloc (.cells #[.int .i64 cap, v] 123)).alloc (.cells #[.int .i64 0, .slice none 0 0] 123)) w.heap.size (w.heap.size + 1) cap v := by
  have s1 : (w.alloc (.cells #[.int .i64 cap, v] 123)).heap.size = w.heap.size + 1 := by simp
  refine ⟨(MB.made w cap _).below (ba (Below.refl _ _) _), ?_, ba (ba (Below.refl _ _) _) _, by simp⟩
  have := MB.made (w.alloc (.cells #[.int .i64 cap, v] 123)) 0 (.slice none 0 0)
  rw [s1] at this; exact this
theorem pl_noneO {S : List On} {k : Int} (h : fndO S k = none) : Srt.pl On.frame S k = -1 := Srt.pl_none (Srt.fnd_none.1 h)
def openO (S : List On) (k : Int) : List On := match fndO S k with | some _ => S | none => putO S ⟨k, none, 0, 0, [], 0⟩
section
variable {w : World} {v : Value} {S : List On} {cap : Int}
set_option maxRecDepth 100000 in
set_option maxHeartbeats 4000000 in
theorem mopen (h : OV1 w v S) (hS : SO S) (hln : S.length < 900000) (k : Int) : Calls Try.prog 102 #[mval cap v, .int .i64 k] w (RetB w v cap (openO S k) (.bool (fndO S k).isNone)) := by
  have HV := Lib.hid h
  obtain ⟨a, n, cp, rfl, hn, hc, hm, hat⟩ := h.at_
  have HSS := Lib.hid (show SO S ∧ S.length < 900000 from ⟨hS, hln⟩)
  clear hat h hn hS
  unfold openO
  cases hf : fndO S k with
  | some y =>
    obtain ⟨i, hpl, hi⟩ := Srt.pl_at hf
    have HPL := Lib.hid hpl
    have hig : decide ((0 : Int) ≤ (i : Int)) = true := by simp
    clear hpl hi hf
    have HI := SB.start w cap (.slice a n cp)
    obtain ⟨b, hbq⟩ : ∃ b, b = w.heap.size := ⟨_, rfl⟩
    obtain ⟨b2, hb2q⟩ : ∃ b2, b2 = b + 1 := ⟨_, rfl⟩
    have HBQ := Lib.hid hbq
    rw [← hbq, ← hb2q] at HI
    replace HI := Lib.hid HI
    go_enter Try.func102, Try.ntmps102
    go_wp2_with fail
    rw [← hbq, ← hb2q]
    clear hbq hb2q
    generalize (w.alloc (.cells #[.int .i64 cap, .slice a n cp] 123)).alloc (.cells #[.int .i64 0, .slice none 0 0] 123) = w1 at *
    have HV1 := Lib.hid (HV.out.below (by rw [← HBQ.out]; exact HI.out.bel))
    refine (mat HV1.out k).mono ?_
    rintro e w2 ⟨rfl, hb2⟩
    rw [HPL.out]
    have HC2 := Lib.hid (HI.out.on hb2)
    clear hb2
    obtain ⟨z0, z1⟩ := HC2.out.m2.cells
    obtain ⟨s0, s1⟩ := HC2.out.m4.cells
    have s2 := HC2.out.m4.fz 0; have s3 := HC2.out.m4.fz 1
    have q0 := HC2.out.m2.lt
    have q2 := HC2.out.m4.lt
    go_wp2
    refine bodyPost_ret (res_mt Try.results102 rfl (HC2.out.m4.set2 cap (.slice a n cp))) rfl ?_
    have hst : Chg (fun k => k = b2) w2 ((w2.setCell ⟨b2, 0, none⟩ (.int .i64 cap)).setCell ⟨b2, 1, none⟩ (.slice a n cp)) := ((Chg.refl (fun k => k = b2) w2).setCell (p := ⟨b2, 0, none⟩) (.inl rfl) _).setCell (p := ⟨b2, 1, none⟩) (.inl rfl) _
    have hd := HC2.out.ds
    have hbx := HC2.out.bel.trans (hst.below (by omega) fun k e => by rw [e]; omega)
    rw [HBQ.out] at hbx
    exact ⟨_, rfl, HV.out.below hbx, fun k hk => .inl hk, hbx⟩
  | none =>
    have HPL := Lib.hid (pl_noneO hf)
    clear hf
    have HI := SB.start w cap (.slice a n cp)
    obtain ⟨b, hbq⟩ : ∃ b, b = w.heap.size := ⟨_, rfl⟩
    obtain ⟨b2, hb2q⟩ : ∃ b2, b2 = b + 1 := ⟨_, rfl⟩
    have HBQ := Lib.hid hbq
    rw [← hbq, ← hb2q] at HI
    replace HI := Lib.hid HI
    go_enter Try.func102, Try.ntmps102
    go_wp2_with fail
    rw [← hbq, ← hb2q]
    clear hbq hb2q
    generalize (w.alloc (.cells #[.int .i64 cap, .slice a n cp] 123)).alloc (.cells #[.int .i64 0, .slice none 0 0] 123) = w1 at *
    have HV1 := Lib.hid (HV.out.below (by rw [← HBQ.out]; exact HI.out.bel))
    refine (mat HV1.out k).mono ?_
    rintro e w2 ⟨rfl, hb2⟩
    rw [HPL.out]
    have HC2 := Lib.hid (HI.out.on hb2)
    have HB2 := Lib.hid hb2
    clear hb2
    obtain ⟨z0, z1⟩ := HC2.out.m2.cells
    obtain ⟨s0, s1⟩ := HC2.out.m4.cells
    have s2 := HC2.out.m4.fz 0; have s3 := HC2.out.m4.fz 1
    have q0 := HC2.out.m2.lt
    have q2 := HC2.out.m4.lt
    go_wp2_with fail
    refine (mwith (cap := cap) (f := ⟨k, none, 0, 0, [], 0⟩) (HV1.out.below HB2.out) HSS.out.1 HSS.out.2).mono ?_
    rintro e w5 ⟨v5, rfl, hv5, ho5, hb5⟩
    have HC5 := Lib.hid (HC2.out.on hb5)
    have hv6 := hv5
    obtain ⟨a5, n5, cp5, rfl, h51, h52, h53, h54⟩ := hv6.at_
    have HF5 := Lib.hid (show OV1 w5 (.slice a5 n5 cp5) (putO S ⟨k, none, 0, 0, [], 0⟩) ∧ ∀ j, Value.ownBlock (.slice a5 n5 cp5) = some j → b2 < j ∧ j < w5.heap.size from ⟨hv5, fun j hj => by have h1 := ho5 j hj; have h2 := HC2.out.ds; exact ⟨by omega, by omega⟩⟩)
    clear hv5 hv6 ho5 hb5 h51 h52 h53 h54
    clear z0 z1 s0 s1 s2 s3 q0 q2
    obtain ⟨z0, z1⟩ := HC5.out.m2.cells
    obtain ⟨s0, s1⟩ := HC5.out.m4.cells
    have s2 := HC5.out.m4.fz 0; have s3 := HC5.out.m4.fz 1
    have q0 := HC5.out.m2.lt
    have q2 := HC5.out.m4.lt
    go_wp2
    refine bodyPost_ret (res_mt Try.results102 rfl (HC5.out.m4.set2 cap (.slice a5 n5 cp5))) rfl ?_
    have hst : Chg (fun k => k = b2) w5 ((w5.setCell ⟨b2, 0, none⟩ (.int .i64 cap)).setCell ⟨b2, 1, none⟩ (.slice a5 n5 cp5)) := ((Chg.refl (fun k => k = b2) w5).setCell (p := ⟨b2, 0, none⟩) (.inl rfl) _).setCell (p := ⟨b2, 1, none⟩) (.inl rfl) _
    have hd := HC5.out.ds
    have hbx := HC5.out.bel.trans (hst.below (by omega) fun k e => by rw [e]; omega)
    rw [HBQ.out] at hbx
    exact ⟨_, rfl, HF5.out.1.chg hst (fun k hk e => by have := (HF5.out.2 k hk).1; omega), fun k hk => .inr (by have h1 := HF5.out.2 k hk; have h2 := hst.size; rw [← HBQ.out]; exact ⟨by omega, by omega⟩), hbx⟩
end
end Go.Proofs.Ytnckjacbkhoppaa
