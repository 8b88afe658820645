/- queue: Shut. -/
import Derived.Test.YtnckjacbkhoppaaQ8
namespace Go.Proofs.Ytnckjacbkhoppaa
open Go.RowKit Go.Maps
open Go.ChangeMaps (setBlock)
attribute [local go_sem] ext_cell ext_frozen extC_cell extC_frozen Mix.calmUpon Mix.mUpon
theorem mdel_len {L : List (Int × Value)} (hnd : (L.map (·.1)).Nodup) {k : Int} {v : Value} (h : L.lookup k = some v) : (mdel L k).length + 1 = L.length := by
  have hlm := look_mem h
  clear h
  unfold mdel
  induction L with
  | nil => cases hlm
  | cons p t ih =>
    rw [List.map_cons, List.nodup_cons] at hnd
    by_cases e : p.1 = k
    · rw [List.filter_cons, if_neg (by simpa using e), List.filter_eq_self.2 fun q hq => by simpa using fun e2 => hnd.1 (by rw [e]; exact List.mem_map.2 ⟨q, hq, e2⟩)]; rfl
    · rw [List.filter_cons, if_pos (by simpa using e)]
      have := ih hnd.2 (by rcases List.mem_cons.1 hlm with h | h; exact absurd (by rw [← h]) e; exact h)
      simp only [List.length_cons]; omega
section
variable {w : World} {B qp M : Nat} {most : Int} {N : Nat} {T : List Pq} {F V : Nat → Prop}
set_option maxRecDepth 100000 in
theorem qshut (h : QT w B qp M most N T F V) (hBw : B ≤ w.heap.size) {k : Int} (hk : I64 k) : Calls Try.prog 104 #[ptr qp, .int .i64 k] w fun e w' => e = .returned (.bool (fndP T k).isSome) ∧ QA w B qp M most N (delP T k) F V w' := by
  have HQT := Lib.hid h
  obtain ⟨S, L, hQ, rfl, ha, hb, hc, hd⟩ := h
  rw [pl_fndR]
  have HQ := Lib.hid hQ; have HFX := Lib.hid (And.intro ha (And.intro hb (And.intro hc hd)))
  have HF := qfind hQ hk
  unfold qfA at HF
  clear hQ ha hb hc hd
  cases hf : fndR S k with
  | none =>
    rw [hf] at HF
    have HF := Lib.hid HF
    have E1 := Lib.hid (show delP (S.map Qr.pl) k = S.map Qr.pl from Srt.del_same (by show fndP _ k = none; rw [pl_fndR, hf]; rfl))
    clear hf
    go_enter Try.func104, Try.ntmps104
    go_wp2_with fail
    refine HF.out.mono ?_
    rintro e w1 ⟨rfl, hb1⟩
    have HB1 := Lib.hid hb1
    go_wp2
    go_ret
    exact ⟨rfl, by rw [E1.out]; exact .refl HQT.out (ba HB1.out _)⟩
  | some r =>
    have hr := Srt.fnd_mem hf
    obtain ⟨ra, rn, rc, hrv, -, -⟩ := (HQ.out.own r hr.1).form
    have HFN := Lib.hid hf
    obtain ⟨f, rv, rl, lost⟩ := r
    simp only at hrv
    subst hrv
    rw [hf] at HF
    have HF := Lib.hid HF
    clear hf hr
    go_enter Try.func104, Try.ntmps104
    go_wp2_with fail
    refine HF.out.mono ?_
    rintro e w1 ⟨rfl, hb1⟩
    have HB2 := Lib.hid (ba hb1 (.cells #[.slice ra rn rc, .int .i64 lost] 172))
    have h2 := HQ.out.below HB2.out
    have c1 := h2.c1
    have hl := h2.lt
    obtain ⟨o, hdel, hm⟩ := h2.map.drop key64 Try.underlying135 0 (x := k) hk
    have hdel' : (Builtin.delete_ #[135, 2] 0 #[.map (some M), .int .i64 k]).run Try.prog (w1.alloc (.cells #[.slice ra rn rc, .int .i64 lost] 172)) = .ok (.tuple #[]) (setBlock (w1.alloc (.cells #[.slice ra rn rc, .int .i64 lost] 172)) M o) := hdel
    clear hdel
    have HMD := Lib.hid hm
    have HGR := Lib.hid (Chg.of_grown (F := fun b => b = M) (grown_setBlock (w1.alloc (.cells #[.slice ra rn rc, .int .i64 lost] 172)) M o) fun b e => by cases e; rfl)
    have H2 := Lib.hid h2
    clear h2 hb1 hm
    go_wp2
    go_ret
    have hx := H2.out.drop (k := k) HFN.out HGR.out HMD.out (mdel_len H2.out.map.nodup (by rw [H2.out.look, HFN.out]; rfl))
    have hs := HGR.out.size
    have hs2 := HB2.out.size
    refine ⟨rfl, F, V, ⟨delR S k, _, hx, pl_del S k, fun j hj => ?_, fun j hj => ?_, fun j hj => by have := HFX.out.2.2.1 j hj; exact ⟨this.1, by omega, this.2.2⟩, fun j hj => by have := HFX.out.2.2.2 j hj; omega⟩, fun j => .inl, fun j => .inl, (Chg.of_below F HB2.out).same (HGR.out.mono fun j e => HFX.out.1 j (.inl e)), fun j => id, fun j hj => hj.elim⟩
    · rcases hj with hj | ⟨r, hr, hj⟩
      · exact HFX.out.1 j (.inl hj)
      · exact HFX.out.1 j (.inr ⟨r, (Srt.mem_del.1 hr).1, hj⟩)
    · rcases hj with hj | ⟨r, hr, e, he, hj⟩
      · exact HFX.out.2.1 j (.inl hj)
      · exact HFX.out.2.1 j (.inr ⟨r, (Srt.mem_del.1 hr).1, e, he, hj⟩)
end
end Go.Proofs.Ytnckjacbkhoppaa
