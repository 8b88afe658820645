/- For any events, any pieces and any number the statement QueueCuts returns true. Condition: none. -/
import Derived.Test.YtnckjacbkhoppaaQCut0
namespace Go.Proofs.Ytnckjacbkhoppaa
open Go.RowKit Go.Maps Go.ChangeShapes Go.WideShapes Go.ChangeAt Go.Joins Go.Deep
attribute [local go_sem] ext_cell ext_frozen extC_cell extC_frozen Mix.calmUpon Mix.mUpon
theorem c1int : Try.prog.cellsOf 3 = 1 := by kernel_rfl
set_option maxRecDepth 100000 in
theorem open_ints {H : Type} {enc : TypeId × Value → H} {W : World} {base : Nat} {sp : Nat → Bool} {held : Bool} {r : Reach} {b0 : Nat} {v : Value} {d : DataW H} {p : List MemPlace}
    (hv : Value.okWide Try.prog W r b0 139 v) (h : DataW.Trod enc Try.prog W base sp held 139 v d p) : ∃ l : List Int, RS 1 ienc W v l ∧ (∀ x ∈ l, I64 x) ∧ ∀ b, v.ownBlock = some b → b < W.heap.size := by
  refine open_rs (P := Try.prog) (k := 1) (enc := ienc) (ok := I64) Try.underlying139 c1int (fun _ => rfl) (fun m cs x hl hf => ?_) hv h
  match cs, hl with
  | [c0], _ =>
    obtain ⟨a, ea, _, wa⟩ := DataW.trod_int Try.underlying3 hf
    simp at ea
    subst ea
    exact ⟨a, rfl, i64_wf' wa⟩
/-- Where taking in pieces stands. -/
structure CW (wz wr : World) (Bb qb Mb N : Nat) (frame : Int) (Fz Fb Vb : Nat → Prop) (sv : Value) (ls : List Ev) (own rest : List Pe) : Prop where
  ch : Chg Fz wz wr
  qb : QT wr Bb qb Mb 1000 N [⟨frame, rest, 0⟩] Fb Vb
  fb : ∀ k, Fb k → Fz k ∨ wz.heap.size ≤ k
  so : OwnL 28 5 evenc wr wz.heap.size sv ls
  sd : ∀ b, sv.ownBlock = some b → ¬ Fb b ∧ ¬ Vb b
  vv : ∀ x ∈ ls, Vc wr x.vv x.ps ∧ ∀ b, x.vv.ownBlock = some b → Vb b
  pl : ls.map Ev.pl ++ rest = own
theorem CW.on {wz wr w' : World} {Bb qb Mb N : Nat} {frame : Int} {Fz Fb Vb : Nat → Prop} {sv : Value} {ls : List Ev} {own rest : List Pe} (h : CW wz wr Bb qb Mb N frame Fz Fb Vb sv ls own rest) (hb : Below wr.heap.size wr w') : CW wz w' Bb qb Mb N frame Fz Fb Vb sv ls own rest :=
  ⟨h.ch.then_below hb, h.qb.below hb, h.fb, h.so.below hb, h.sd, fun x hx => ⟨(h.vv x hx).1.on hb, (h.vv x hx).2⟩, h.pl⟩
/-- A piece taken, and put at the end. -/
theorem CW.step {wz wr w5 : World} {Bb qb Mb N : Nat} {frame : Int} {Fz Fb Vb : Nat → Prop} {sv : Value} {ls : List Ev} {own rest : List Pe} (h : CW wz wr Bb qb Mb N frame Fz Fb Vb sv ls own rest) (hown : own.length ≤ 1000)
    {p : Int} {u : Value} {lu : List Ev} (hu : EL w5 u lu) (hlu : lu.map Ev.pl = rest.take p.toNat) (hlv : ∀ x ∈ lu, ∀ b, x.vv.ownBlock = some b → Vb b) {A : Nat → Prop} (hx : QX A wr Bb qb Mb 1000 N [⟨frame, rest.drop p.toNat, 0⟩] Fb Vb w5)
    {w6 : World} (hb6 : Below w5.heap.size w5 w6) (ty : TypeId) :
    ∃ v' w7 Fb' Vb', (Builtin.append_ #[24, 24] ty #[sv, u]).run Try.prog w6 = .ok v' w7 ∧ CW wz w7 Bb qb Mb N frame Fz Fb' Vb' v' (ls ++ lu) own (rest.drop p.toNat) := by
  obtain ⟨F', V', hq, hF, hV, hc, hVV, -⟩ := hx
  have hlen : ls.length + lu.length ≤ 1000 := by
    have h1 := congrArg List.length h.pl
    have h2 := congrArg List.length hlu
    rw [List.length_append, List.length_map] at h1
    rw [List.length_map, List.length_take] at h2
    omega
  have hsl := h.so.lt
  have hfb := hq.fb
  have so5 : OwnL 28 5 evenc w5 wz.heap.size sv ls := h.so.chg hc fun b hb => (h.sd b hb).1
  have hz6 := hb6.size; have hz5 := hc.size; have hzz := h.ch.size
  obtain ⟨v', w7, hr, ho, hg, hv⟩ := evapps (so5.below hb6) (hu.rs.below hb6) (fun x hx => vc_one (hu.vec x hx)) (by omega) (by omega) ty
  have hnF : ∀ b, sv.ownBlock = some b → ¬ F' b ∧ ¬ V' b := fun b hb => by
    have hl := (hsl b hb).2
    refine ⟨fun e => ?_, fun e => ?_⟩
    · rcases hF b e with h' | h'
      · exact (h.sd b hb).1 h'
      · omega
    · rcases hV b e with h' | h'
      · exact (h.sd b hb).2 h'
      · omega
  have hcg : Chg (fun k => sv.ownBlock = some k) w5 w7 := (Chg.of_below _ hb6).same (.of_grown hg fun k e => e)
  refine ⟨v', w7, F', V', hr, ⟨?_, hq.chg hcg (fun k hk e => (hnF k e).1 hk) (fun k hk e => (hnF k e).2 hk), fun k hk => ?_, ho, fun b hb => ?_, fun x hx => ?_, ?_⟩⟩
  · exact (h.ch.trans hc h.fb).trans hcg fun k e => .inr (hsl k e).1
  · rcases hF k hk with h' | h'
    · exact h.fb k h'
    · exact .inr (by omega)
  · rcases hv with e | e
    · rw [e] at hb; exact hnF b hb
    · rw [e] at hb
      cases hb
      exact ⟨fun e => by have := (hfb.1 _ e).2.1; omega, fun e => by have := (hfb.2 _ e).2; omega⟩
  · have keep : ∀ y : Ev, Vc w5 y.vv y.ps → (∀ b, y.vv.ownBlock = some b → Vb b) → Vc w7 y.vv y.ps := fun y h1 h2 => h1.chg hcg fun b hb e => (h.sd b e).2 (h2 b hb)
    rcases List.mem_append.1 hx with hx | hx
    · have h1 := h.vv x hx
      have h2 : Vc w5 x.vv x.ps := h1.1.chg hc fun b hb e => (h.qb.fb.1 b e).2.2 (h1.2 b hb)
      exact ⟨keep x h2 h1.2, fun b hb => hVV b (h1.2 b hb)⟩
    · exact ⟨keep x (hu.vec x hx) (hlv x hx), fun b hb => hVV b (hlv x hx b hb)⟩
  · rw [List.map_append, hlu, List.append_assoc, List.take_append_drop, h.pl]
set_option maxRecDepth 100000 in
set_option maxHeartbeats 8000000 in
theorem cuts28 (v0 v1 : Value) (l : List Ev) (ps : List Int) (frame : Int) (W : World) (hA : EL W v0 l) (hI : ∀ x ∈ l, I64 x.frame) (ho : ∀ b, v0.ownBlock = some b → b < W.heap.size) (hP : RS 1 ienc W v1 ps) (hPI : ∀ x ∈ ps, I64 x) (hf : I64 frame) :
    Calls Try.prog 14 #[v0, v1, .int .i64 frame] W fun e W' => e = .returned (.bool true) ∧ Below W.heap.size W W' := by
  obtain ⟨a, n, cap, rfl, hn, hc, hm, hat⟩ := hA.rs.at_
  obtain ⟨a', m, cap', rfl, hn', hc', hm', hpt⟩ := hP.at_
  by_cases hbig : 200 < n
  · have hbI : (200 : Int) < (n : Int) := by omega
    clear hat hA hn ho hI hpt hP hn' hPI
    go_enter Try.func14, Try.ntmps14
    go_wp2
    go_ret
    exact ⟨rfl, Below.refl _ _⟩
  · have hbI : (n : Int) ≤ 200 := by omega
    have hbn : n ≤ 200 := by omega
    by_cases hbig2 : 60 < m
    · have hbI2 : (60 : Int) < (m : Int) := by omega
      clear hat hA hn ho hI hpt hP hn' hPI
      go_enter Try.func14, Try.ntmps14
      go_wp2
      go_ret
      exact ⟨rfl, Below.refl _ _⟩
    · have hbI2 : (m : Int) ≤ 60 := by omega
      have hbm : m ≤ 60 := by omega
      have HA := Lib.hid hA; have HO := Lib.hid ho; have HI := Lib.hid hI; have HN := Lib.hid hn
      have HAT := Lib.hid hat; have HPT := Lib.hid hpt; have HM := Lib.hid hn'; have HPI := Lib.hid hPI
      clear hat hA hn ho hI hbig hm hpt hP hn' hPI hm' hbig2
      go_enter Try.func14, Try.ntmps14
      go_wp2_with fail
      refine (qnew W (most := 1000) (by decide)).mono ?_
      rintro e w1 ⟨rfl, h1, hb1⟩
      have H1 := Lib.hid h1; have HB1 := Lib.hid hb1
      clear h1 hb1
      go_wp2_with fail
      refine (qnew w1 (most := 1000) (by decide)).mono ?_
      rintro e w2 ⟨rfl, h2, hb2⟩
      have HT2 := Lib.hid (show Two w2 W.heap.size (W.heap.size + 1) W.heap.size 1000 0 [] w1.heap.size (w1.heap.size + 1) w1.heap.size 0 [] (fun k => k = W.heap.size) (fun k => k = W.heap.size + 1) (fun k => k = w1.heap.size) (fun k => k = w1.heap.size + 1) from by
        have hlt := H1.out.lt
        exact ⟨H1.out.below hb2, h2, fun k hk => by omega, fun k hk => by omega⟩)
      have HB2 := Lib.hid (bt HB1.out hb2)
      have HBB := Lib.hid (show W.heap.size ≤ w1.heap.size from HB1.out.size)
      clear h2 hb2
      obtain ⟨qa, hqa⟩ : ∃ q, q = W.heap.size + 1 := ⟨_, rfl⟩
      obtain ⟨Bb, hBb⟩ : ∃ B, B = w1.heap.size := ⟨_, rfl⟩
      have HBb := Lib.hid (show W.heap.size ≤ Bb ∧ Bb ≤ w2.heap.size from by have h := HT2.out.b.lt; have := HBB.out; omega)
      rw [← hqa, ← hBb] at HT2
      rw [← hqa, ← hBb]
      obtain ⟨qb, hqb⟩ : ∃ q, q = Bb + 1 := ⟨_, rfl⟩
      obtain ⟨Ma, hMa⟩ : ∃ M, M = W.heap.size := ⟨_, rfl⟩
      rw [← hqb] at HT2
      rw [← hqb]
      clear hqa hqb hMa hBb
      generalize (fun k : Nat => k = W.heap.size) = Fa0, (fun k : Nat => k = qa) = Va0, (fun k : Nat => k = Bb) = Fb0, (fun k : Nat => k = qb) = Vb0 at HT2
      go_wp2_with fail
      refine (qopen HT2.out.a HB2.out.size hf).mono ?_
      rintro e w3 ⟨rfl, hx3⟩
      have HB3 := Lib.hid (HB2.out.trans (hx3.bel HT2.out.a HB2.out.size))
      obtain ⟨Fa1, Va1, HT3, -, -, -⟩ := HT2.out.act hx3
      have HT3 := Lib.hid HT3
      have hb3 : Bb ≤ w3.heap.size := by obtain ⟨_, _, _, _, _, hcc, _⟩ := hx3; have := hcc.size; have := HBb.out.2; omega
      clear hx3
      go_wp2_with fail
      refine (qopen HT3.out.b hb3 hf).mono ?_
      rintro e w4 ⟨rfl, hx4⟩
      have hb34 := hx4.bel HT3.out.b hb3
      have HB4 := Lib.hid (HB3.out.trans (hb34.mono HBb.out.1))
      have HS4 := Lib.hid (show Bb ≤ w4.heap.size from by have := hb34.size; omega)
      obtain ⟨Fb1, Vb1, HT4, -, -, -⟩ := HT3.out.symm.act hx4
      have HT4 := Lib.hid HT4.symm
      clear hx4 hb34 hb3
      rw [show (fndP [] frame).isNone = true from rfl]
      go_wp2
      go_loopw [9] (fun iv wr => ∃ t : Nat, t ≤ n ∧ iv = .int .i64 t ∧ wr = w4 ∧ Hid (∀ x ∈ l.take t, x.ps.length ≤ 150)) (fun iv _ => n - (intOf iv).toNat)
      case atStart => exact ⟨0, Nat.zero_le _, rfl, rfl, Lib.hid (fun x hx => by simp at hx)⟩
      case round =>
        obtain ⟨t, ht, rfl, rfl, HS⟩ := hrel
        by_cases hlt : t < n
        · have hts : (t : Int) < (n : Int) := by omega
          obtain ⟨x, hx⟩ := at_lt (l := l) (i := t) (by rw [← HN.out]; exact hlt)
          obtain ⟨b, off, rfl, hb, hcell⟩ := HAT.out t x hx
          have c4 := (HB4.out.cell (p := ⟨b, off + t * 5 + 4, none⟩) hb).trans (hcell 4 _ rfl)
          have hbw : b < wr.heap.size := Nat.lt_of_lt_of_le hb HB4.out.size
          obtain ⟨va, vc, hvv, -, -⟩ := (HA.out.vec x (mem_at hx)).form
          obtain ⟨vn, hvn⟩ : ∃ vn, vn = x.ps.length := ⟨_, rfl⟩
          rw [hvv, ← hvn] at c4
          have HVN := Lib.hid hvn
          have HX := Lib.hid hx
          clear hcell hx hb hvv hvn
          by_cases hv : 150 < vn
          · have hvI : (150 : Int) < (vn : Int) := by omega
            go_wp2
            go_ret
            exact ⟨rfl, HB4.out⟩
          · have hvI : (vn : Int) ≤ 150 := by omega
            have HS2 := Lib.hid (show ∀ x ∈ l.take (t + 1), x.ps.length ≤ 150 from fun y hy => by
              rw [take_at HX.out] at hy
              rcases List.mem_append.1 hy with h' | h'
              · exact HS.out y h'
              · obtain rfl := List.mem_singleton.1 h'
                have := HVN.out; omega)
            go_wp2
            go_roundw
            case rel => exact ⟨t + 1, by omega, by go_num, by first | rfl | trivial, HS2⟩
            case measure => simp [intOf]; omega
        · obtain rfl : n = t := by omega
          have hsm := HS.out
          rw [show l.take n = l by rw [HN.out, List.take_length]] at hsm
          have HSM := Lib.hid hsm
          clear hsm HS
          obtain ⟨w4, rfl⟩ : ∃ w, w = wr := ⟨_, rfl⟩
          have HEL4 := Lib.hid (HA.out.below HB4.out)
          have HFA4 := Lib.hid HT4.out.a.fb
          have HFB4 := Lib.hid HT4.out.b.fb
          have hq := qput HT4.out.a HB4.out.size HEL4.out (HA.out.old HO.out fun k hk => (HFA4.out.1 k hk).1) (fun b hb => Nat.lt_of_lt_of_le (HO.out b hb) HB4.out.size) HI.out (fun x hx => by have := HSM.out x hx; omega) (by have := HN.out; omega) (by decide)
          go_wp2_with fail
          refine hq.mono ?_
          rintro e w5 ⟨rfl, hx5⟩
          have HB5 := Lib.hid (HB4.out.trans (hx5.bel HT4.out.a HB4.out.size))
          have hb5 : Bb ≤ w5.heap.size := by obtain ⟨_, _, _, _, _, hcc, _⟩ := hx5; have := hcc.size; have := HS4.out; omega
          obtain ⟨Fa2, Va2, HT5, -, -, -⟩ := HT4.out.act hx5
          have HT5 := Lib.hid HT5
          clear hx5 hq
          have hq := qput HT5.out.b hb5 (HA.out.below HB5.out) (HA.out.old HO.out fun k hk => by have := (HFB4.out.1 k hk).1; have := HBb.out.1; omega) (fun b hb => Nat.lt_of_lt_of_le (HO.out b hb) HB5.out.size) HI.out (fun x hx => by have := HSM.out x hx; omega) (by have := HN.out; omega) (by decide)
          go_wp2_with fail
          refine hq.mono ?_
          rintro e w6 ⟨rfl, hx6⟩
          have hb56 := hx6.bel HT5.out.b hb5
          have HB6 := Lib.hid (HB5.out.trans (hb56.mono HBb.out.1))
          have HS6 := Lib.hid (show Bb ≤ w6.heap.size from by have := hb56.size; omega)
          obtain ⟨Fb2, Vb2, HT6, -, -, -⟩ := HT5.out.symm.act hx6
          have ht6 := HT6.symm
          have hkeep := keep_all frame (l.map Ev.pl) (by rw [List.length_map]; have := HN.out; omega)
          rw [hkeep] at ht6
          obtain ⟨own, hown⟩ : ∃ o, o = ownF frame (l.map Ev.pl) := ⟨_, rfl⟩
          rw [← hown] at ht6
          have hol : own.length ≤ n := by
            have h1 : (ownF frame (l.map Ev.pl)).length ≤ (l.map Ev.pl).length := List.length_filter_le _ _
            rw [List.length_map] at h1
            rw [hown]; have := HN.out; omega
          have HT6 := Lib.hid ht6
          have HOW := Lib.hid hown
          clear hx6 hq hb56 ht6 hkeep hown hb5
          have hLa := qlong HT6.out.a (k := frame) hf
          rw [long_one] at hLa
          go_wp2_with fail
          refine hLa.mono ?_
          rintro e w7 ⟨rfl, hb7⟩
          have HT7 := Lib.hid (HT6.out.below hb7)
          have HB7 := Lib.hid (bt HB6.out hb7)
          clear hLa hb7
          have hTa := qtake HT7.out.a HB7.out.size (k := frame) (n := (own.length : Int)) hf (by have := HN.out; omega)
          rw [take_one, got_one, Int.toNat_natCast, List.take_length, List.drop_length] at hTa
          go_wp2_with fail
          refine hTa.mono ?_
          rintro e w8 ⟨u8, lu8, rfl, hu8, hlu8, hub8, hlv8, hx8⟩
          have HB8 := Lib.hid (HB7.out.trans (hx8.bel HT7.out.a HB7.out.size))
          have HFB7 := Lib.hid HT7.out.b.fb
          have HED8 := Lib.hid (show ED Fb2 u8 lu8 from ⟨fun b hb hf' => by
            have h1 := (hub8 b hb).1; have h2 := (HFB7.out.1 b hf').2.1; omega, fun x hx => .inr fun b hb hf' => (HT7.out.dba b hf').2 (hlv8 x hx b hb)⟩)
          obtain ⟨Fa3, Va3, HT8, -, -, -⟩ := HT7.out.act hx8
          have HT8 := Lib.hid HT8
          have HU8 := Lib.hid hu8; have HLU8 := Lib.hid hlu8
          have HC0 := Lib.hid (show CW w8 w8 Bb qb Bb n frame Fb2 Fb2 Vb2 (.slice none 0 0) [] own own from ⟨Chg.refl _ _, by have := HT8.out.b; exact this.up (by have := HN.out; omega), fun k => .inl, OwnL.nil _ _ _ _ _, (fun b hb => by cases hb), (fun x hx => by cases hx), rfl⟩)
          have HBz := Lib.hid (show Bb ≤ w8.heap.size from by have := HT8.out.b.lt; have := HT8.out.b.fb; obtain ⟨S, L, q, _⟩ := HT8.out.b; have := q.hM.2.1; omega)
          clear hTa hu8 hlu8 hub8 hlv8 hx8
          have HFZ := Lib.hid (show ∀ k, Fb2 k → Bb ≤ k from fun k hk => (HFB7.out.1 k hk).1)
          go_wp2
          go_loopw [12, 13] (fun sv iv wr => ∃ (t : Nat) (ls : List Ev) (rest : List Pe) (Fb Vb : Nat → Prop), t ≤ m ∧ iv = .int .i64 t ∧ Hid (CW w8 wr Bb qb Bb n frame Fb2 Fb Vb sv ls own rest)) (fun sv iv _ => m - (intOf iv).toNat)
          case atStart => exact ⟨0, [], own, Fb2, Vb2, Nat.zero_le _, rfl, HC0⟩
          case round =>
            clear HC0
            obtain ⟨t, ls, rest, Fb, Vb, ht, rfl, HQ⟩ := hrel
            obtain ⟨w9, rfl⟩ : ∃ w, w = wr := ⟨_, rfl⟩
            by_cases hlt : t < m
            · have hts : (t : Int) < (m : Int) := by omega
              obtain ⟨p, hp⟩ := at_lt (l := ps) (i := t) (by rw [← HM.out]; exact hlt)
              obtain ⟨b, off, rfl, hb, hcell⟩ := HPT.out t p hp
              have hpc := hcell 0 _ rfl
              rw [Nat.add_zero, Nat.mul_one] at hpc
              have hbel9 : Below W.heap.size W w9 := HB8.out.trans (HQ.out.ch.below HB8.out.size fun k hk => by have := HFZ.out k hk; have := HBb.out.1; omega)
              have HB9 := Lib.hid hbel9
              have HPC := Lib.hid (show ∀ w', Below W.heap.size W w' → w'.cell? ⟨b, off + t, none⟩ = some (.int .i64 p) ∧ b < w'.heap.size from fun w' hb' => ⟨(hb'.cell (p := ⟨b, off + t, none⟩) hb).trans hpc, Nat.lt_of_lt_of_le hb hb'.size⟩)
              have hpI := HPI.out p (mem_at hp)
              have hol' : ls.length + rest.length = own.length := by have := congrArg List.length HQ.out.pl; rw [List.length_append, List.length_map] at this; exact this
              have hL9 := qlong HQ.out.qb (k := frame) hf
              rw [long_one] at hL9
              clear hpc hcell hb hp hbel9
              go_wp2_with fail
              refine hL9.mono ?_
              rintro e w10 ⟨rfl, hb10⟩
              have HQ10 := Lib.hid (HQ.out.on hb10)
              have HB10 := Lib.hid (bt HB9.out hb10)
              obtain ⟨c0, c1⟩ := HPC.out w10 HB10.out
              have hBz10 : Bb ≤ w10.heap.size := by have := HQ10.out.ch.size; have := HBz.out; omega
              have hT := qtake HQ10.out.qb hBz10 (k := frame) (n := p) hf (by omega)
              rw [take_one, got_one] at hT
              have HT := Lib.hid hT
              clear hL9 hb10 hT
              go_wp2_with fail
              refine HT.out.mono ?_
              rintro e w11 ⟨u, lu, rfl, hu, hlu, hub, hlv, hx11⟩
              have hb11 := hx11.bel HQ10.out.qb hBz10
              have HB11 := Lib.hid (show Below W.heap.size W w11 from HB10.out.trans (hb11.mono HBb.out.1))
              have hlen := congrArg List.length hlu
              rw [List.length_map, List.length_take] at hlen
              obtain ⟨ua, un, uc, rfl, hun, -, -, -⟩ := hu.rs.at_
              have hunI : max 0 (min (rest.length : Int) p) = (un : Int) := by omega
              have hwr : IntKind.i64.wrap ((rest.length : Int) - (un : Int)) = (rest.length : Int) - (un : Int) := IntWalk.i64_in _ (by omega)
              obtain ⟨c2, c3⟩ := HPC.out w11 HB11.out
              have HLN := Lib.hid (show (((rest.drop p.toNat).length : Nat) : Int) = (rest.length : Int) - (un : Int) from by rw [List.length_drop]; omega)
              have HL11 := Lib.hid (show Calls Try.prog 70 #[ptr qb, .int .i64 frame] w11 fun e w' => e = .returned (.int .i64 ((rest.length : Int) - (un : Int))) ∧ Below w11.heap.size w11 w' from by
                obtain ⟨F', V', hq, -⟩ := hx11
                have h := qlong hq (k := frame) hf
                rw [long_one, HLN.out] at h; exact h)
              have HST := Lib.hid (fun w12 (hb12 : Below w11.heap.size w11 w12) => HQ10.out.step (by have := HN.out; omega) hu hlu hlv hx11 hb12 24)
              clear c0 c1 hb11 hlen hun hu hlu hub hlv hx11 hBz10 hpI
              go_wp2_with fail
              refine HL11.out.mono ?_
              rintro e w12 ⟨rfl, hb12⟩
              obtain ⟨v', w13, Fb', Vb', hr, hcw⟩ := HST.out w12 hb12
              have HRA := Lib.hid hr; have HI := Lib.hid hcw
              clear hr hcw hb12 c2 c3
              go_wp2_with (at_builtin; refine wpList_app_run rfl _ _ _ rfl rfl rfl HRA.out ?_)
              go_roundw
              case rel => exact ⟨t + 1, _, _, Fb', Vb', by omega, by go_num, HI⟩
              case measure => simp [intOf]; omega
            · obtain rfl : m = t := by omega
              have hbel9 : Below W.heap.size W w9 := HB8.out.trans (HQ.out.ch.below HB8.out.size fun k hk => by have := HFZ.out k hk; have := HBb.out.1; omega)
              have HB9 := Lib.hid hbel9
              have hol' : ls.length + rest.length = own.length := by have := congrArg List.length HQ.out.pl; rw [List.length_append, List.length_map] at this; exact this
              have hBz9 : Bb ≤ w9.heap.size := by have := HQ.out.ch.size; have := HBz.out; omega
              have hT := qtake HQ.out.qb hBz9 (k := frame) (n := (own.length : Int)) hf (by omega)
              rw [take_one, got_one] at hT
              have HT := Lib.hid hT
              clear hT hbel9
              go_wp2_with fail
              refine HT.out.mono ?_
              rintro e w11 ⟨u, lu, rfl, hu, hlu, hub, hlv, hx11⟩
              obtain ⟨v', w13, Fb', Vb', hr, hcw⟩ := HQ.out.step (p := (own.length : Int)) (by omega) hu hlu hlv hx11 (Below.refl _ _) 24
              rw [show rest.drop ((own.length : Int)).toNat = [] from by rw [Int.toNat_natCast]; exact List.drop_of_length_le (by omega)] at hcw
              have HRA := Lib.hid hr; have HC := Lib.hid hcw
              clear hr hcw hu hlu hub hlv hx11 hBz9
              have HB13 := Lib.hid (show Below W.heap.size W w13 from HB8.out.trans (HC.out.ch.below HB8.out.size fun k hk => by have := HFZ.out k hk; have := HBb.out.1; omega))
              have HEA := Lib.hid (HU8.out.keep HC.out.ch HED8.out)
              have HES := Lib.hid (show EL w13 v' (ls ++ lu) from ⟨HC.out.so.rs fun _ => rfl, fun x hx => (HC.out.vv x hx).1⟩)
              have HQA := Lib.hid (HT8.out.a.chg HC.out.ch (fun k hk e => (HT8.out.dba k e).1 hk) (fun k hk e => (HT8.out.dba k e).2 hk))
              have HPE := Lib.hid (show lu8.map Ev.pl = (ls ++ lu).map Ev.pl from by rw [HLU8.out, ← HC.out.pl, List.append_nil])
              have HBS := Lib.hid (show ∀ x ∈ lu8, x.ps.length < 1000000000 from fun x hx => by
                have h1 : x.pl ∈ lu8.map Ev.pl := List.mem_map.2 ⟨x, hx, rfl⟩
                rw [HLU8.out, HOW.out] at h1
                obtain ⟨y, hy, he⟩ := List.mem_map.1 (List.mem_filter.1 h1).1
                have h2 := HSM.out y hy
                rw [← (pl_same.1 he).2.2.2.2]; omega)
              go_wp2_with (at_builtin; refine wpList_app_run rfl _ _ _ rfl rfl rfl HRA.out ?_)
              refine (sev_yes u8 v' lu8 (ls ++ lu) HBS.out HPE.out w13 HEA.out HES.out).mono ?_
              rintro e w14 ⟨rfl, hb14⟩
              have HB14 := Lib.hid hb14
              clear hb14
              have hLa := qlong (HQA.out.below HB14.out) (k := frame) hf
              rw [long_one] at hLa
              go_wp2_with fail
              refine hLa.mono ?_
              rintro e w15 ⟨rfl, hb15⟩
              have HB15 := Lib.hid (bt HB14.out hb15)
              clear hLa hb15
              have hLb := qlong (HC.out.qb.below HB15.out) (k := frame) hf
              rw [long_one] at hLb
              go_wp2_with fail
              refine hLb.mono ?_
              rintro e w16 ⟨rfl, hb16⟩
              have HB16 := Lib.hid (bt HB15.out hb16)
              clear hLb hb16
              go_wp2_with fail
              refine (works28 _).mono ?_
              rintro e w17 ⟨rfl, hb17⟩
              have HB17 := Lib.hid (bt HB16.out hb17)
              clear hb17
              go_wp2
              go_ret
              exact ⟨rfl, bt HB13.out HB17.out⟩
namespace QueueCuts
open Go.ChangeShapes Go.WideShapes Go.ChangeAt Go.RowKit Go.Joins
theorem own : ownKnob Try.prog.godebug = none := by kernel_rfl
theorem laidOut : laidOutB Try.prog = true := by kernel_rfl
set_option maxRecDepth 100000 in
theorem lifted (os : Os) (started : os.Started) (H : Type) (enc : TypeId × Value → H) :
    ReturnsInHanded {} Try.checked os 14 .any (Rows.queueCutsSpec.pre6 enc Try.prog Try.f14 Rows.queueCutsRow.domain false) (Rows.queueCutsSpec.post enc Try.prog Try.f14 false true false false) := by
  refine returnsInHanded_of_change (C := Try.checked) own started (by kernel_rfl) Try.func14
    (ChangeSpec.witness6 (enc := enc) (C := Try.checked) false ⟨#[], #[.slice none 0 0, .slice none 0 0, .int .i64 0], []⟩ 8 (by kernel_rfl) (by kernel_rfl) (by kernel_rfl) (by kernel_rfl)) ?_
  intro W base args ds gs before hval0 hW hcnd _
  have hval : ∀ (j : Nat) t v, Try.f14.params[j]? = some t → args[j]? = some v → Value.okWide Try.prog W .any base t v := hval0
  have hW' := hW
  obtain ⟨p, q, hA0, hV, rfl, hfz, hnd⟩ := hW
  have hA : DataW.TrodAll enc Try.prog W 0 (fun _ => true) true Try.f14.params.toList args.toList ds p := hA0
  rw [Try.params14] at hA hval
  obtain ⟨v0, vs0, d0, ds0, p0, q0, hargs, rfl, rfl, h0, r0⟩ := trodAll_cons hA
  obtain ⟨v1, vs1, d1, ds1, p1, q1, rfl, rfl, rfl, h1, r1⟩ := trodAll_cons r0
  obtain ⟨v2, vs2, d2, ds2, p2, q2, rfl, rfl, rfl, h2, r2⟩ := trodAll_cons r1
  obtain ⟨rfl, rfl, rfl⟩ := trodAll_nil r2
  obtain rfl : args = #[v0, v1, v2] := by cases args; simp_all
  obtain ⟨rfl, rfl⟩ := trodVars_none hV
  have k0 := h0
  have lt0 : ∀ x ∈ p0, x.block < W.heap.size := by obtain ⟨m, hm⟩ := k0; exact DataW.trod_lt m _ _ _ hm
  have k1 := h1
  have lt1 : ∀ x ∈ p1, x.block < W.heap.size := by obtain ⟨m, hm⟩ := k1; exact DataW.trod_lt m _ _ _ hm
  have k2 := h2
  have lt2 : ∀ x ∈ p2, x.block < W.heap.size := by obtain ⟨m, hm⟩ := k2; exact DataW.trod_lt m _ _ _ hm
  obtain ⟨la, oA, iA, hA3⟩ := open_evs (hval 0 24 v0 rfl rfl) k0
  obtain ⟨lp, oP, iP, _⟩ := open_ints (hval 1 139 v1 rfl rfl) k1
  obtain ⟨frame, vEq2, _, _, wf_frame⟩ := open_int Try.underlying2 (hval 2 2 v2 rfl rfl) k2
  subst vEq2
  clear hA0 hval0
  refine (cuts28 v0 v1 la lp frame W oA (fun x hx => (iA x hx).1) hA3 oP iP (i64_wf' wf_frame)).mono fun e W' ⟨he, bel⟩ => ?_
  subst he
  exact ⟨_, rfl, _, _, _, [], _, [], hW', trodAll_mk1 (shut_bool Try.underlying4 _), (trodAll_cons_mk (Below.trod laidOut (by kernel_rfl) (of_decide_eq_true (by kernel_rfl)) k0 bel lt0) (trodAll_cons_mk (Below.trod laidOut (by kernel_rfl) (of_decide_eq_true (by kernel_rfl)) k1 bel lt1) (trodAll_cons_mk (Below.trod laidOut (by kernel_rfl) (of_decide_eq_true (by kernel_rfl)) k2 bel lt2) trodAll_mk0))), rfl, bel.frame _, fun h => by cases h⟩
theorem over : Rows.queueCutsRow.holds Try.pinned (OpenSpec.ofChange Rows.queueCutsSpec) :=
  OpenClaim.holds_of_wide 14 Try.f14 rfl rfl rfl rfl rfl rfl rfl ⟨rfl, rfl, rfl, rfl, rfl⟩ rfl rfl rfl rfl rfl (by kernel_rfl) Try.func14 (by kernel_rfl)
    (of_decide_eq_true (by kernel_rfl)) (by unfold Func.isWrapper; first | (rw [if_pos (by decide +kernel)]; kernel_rfl) | (rw [if_neg (by decide +kernel)]; exact ⟨rfl, rfl⟩))
    (fun os started H enc _ => lifted os started H enc)
theorem proved : Rows.QueueCutsSaid := over
end QueueCuts
end Go.Proofs.Ytnckjacbkhoppaa
