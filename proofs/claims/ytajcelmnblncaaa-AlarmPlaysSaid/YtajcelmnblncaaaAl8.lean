/- alarm: Forget. -/
import Derived.Test.YtajcelmnblncaaaAl7
import Derived.WideShapes
namespace Go.Proofs.Ytajcelmnblncaaa
open Go.RowKit Go.Maps Go.MapKept
attribute [local go_sem] ext_cell ext_frozen extC_cell extC_frozen Mix.calmUpon Mix.mUpon
set_option maxRecDepth 100000 in
set_option maxHeartbeats 1000000 in
theorem eqKy (a0 a1 a2 : Int) (b0 b1 b2 : Int) (w : World) : (Op.equalIn 10000 79 (.agg #[.int .i64 a0, .int .i64 a1, .int .i64 a2]) (.agg #[.int .i64 b0, .int .i64 b1, .int .i64 b2])).run Try.prog w =
    .ok (a0 == b0 && (a1 == b1 && a2 == b2)) w := by
  have u1 := Try.underlying2
  have u2 := Try.underlying3
  have i1 := Try.isAgg2
  have i2 := Try.isAgg3
  have z1 := Try.sizeOf2
  have z2 := Try.sizeOf3
  rw [show (10000 : Nat) = 9999 + 1 from rfl, Op.equalIn]
  simp only [Sem.run_bind, run_underlying Try.underlying79, Result.andThen_ok]
  go_simp
  by_cases h0 : a0 = b0
  · by_cases h1 : a1 = b1
    · by_cases h2 : a2 = b2 <;> simp [h0, h1, h2]
    · simp [h0, h1]
  · simp [h0]
attribute [local go_sem] eqKy
/-- What is still to come, told by the world. -/
def todoLen (w : World) (M it : Nat) : Nat := match w.heap[M]?, w.heap[it]? with
  | some (.map es _), some (.mapIter _ _ seen _) => (es.toList.filter fun e => !seen.contains e.born).length
  | _, _ => 0
theorem MapI.left {P : Program} {k : TypeId} {κ : Type} {E : KEnc P k κ} {w : World} {M it : Nat} {L todo : List (κ × Value)} (h : MapI E w M it L todo) : todoLen w M it = todo.length := by
  obtain ⟨es, c, s, c0, seen, h1, _, _, h4, h5, _, _, rfl⟩ := h
  unfold todoLen
  rw [h1, h5]
  show (es.toList.filter fun e => !seen.contains e.born).length = _
  rw [List.length_map]
  have : es.toList = (es.toList.zip L).map (·.1) := by
    rw [List.map_fst_zip]; rw [zip_len h4]; exact Nat.le_refl _
  conv => lhs; rw [this, List.filter_map, List.length_map]
  rfl
def isF (what first : Int) (k : Ky) : Bool := k.1 == what && k.2.1 == first
abbrev forgetR (R : List Rc) (what first : Int) : List Rc := R.filter fun x => !isF what first x.key
/-- Where Forget stands. -/
structure FI (W wr : World) (ap hp Mn Mk : Nat) (last : Int) (F0 : Nat → Prop) (s0 : Int) (R : List Rc) (what first : Int) (it : Nat) (R' : List Rc) (Ln : List (Ky × Value)) (Lk : List (Int × Value)) (F : Nat → Prop) (l : List It) (s : Int) (todo : List (Ky × Value)) : Prop where
  ao : AO wr ap hp Mn Mk last Ln Lk F l s R'
  mi : MapI K3 wr Mn it Ln todo
  nit : ¬ AG ap Mn Mk F it
  chg : Chg (AG ap Mn Mk F0) W wr
  it0 : W.heap.size ≤ it
  nw : ∀ q, F q → F0 q ∨ W.heap.size ≤ q
  sub : ∀ x ∈ R', x ∈ R
  keep : ∀ x ∈ R, isF what first x.key = false → x ∈ R'
  come : ∀ x ∈ R', isF what first x.key = true → ∃ p ∈ todo, p.1 = x.key
  st : s0 ≤ s ∧ s + 34 * R'.length ≤ s0 + 34 * R.length
  ln : R'.length ≤ R.length
section
variable {w : World} {ap hp Mn Mk : Nat} {last : Int} {Ln : List (Ky × Value)} {Lk : List (Int × Value)} {F : Nat → Prop} {l : List It} {s : Int} {R : List Rc} {G : Nat → Prop} {c : Nat}
set_option maxRecDepth 100000 in
set_option maxHeartbeats 4000000 in
theorem aforget (h : AS w ap G R c) (hc : c + R.length ≤ 80000) (what first : Int) : Calls Try.prog 53 #[ptr ap, .int .i64 what, .int .i64 first] w fun e w' => e = .returned (.int .i64 ((R.length - (forgetR R what first).length : Nat) : Int)) ∧ AR w w' ap G (forgetR R what first) (c + R.length) := by
  have H := Lib.hid h
  clear h
  go_enter Try.func53, Try.ntmps53
  go_wp2_with fail
  refine (amade H.out).mono ?_
  rintro e w1 ⟨rfl, hb1⟩
  obtain ⟨hp, Mn, Mk, last, Ln0, Lk0, F0, l0, s0, h0, hG, hbd⟩ := H.out
  have h1 := h0.below hb1
  have H0 := Lib.hid h0
  have H1 := Lib.hid h1
  have HD := Lib.hid hbd
  have c1 := h1.c1
  have hl := h1.lt ap (.inl rfl)
  have HM0 := Lib.hid h0.lt
  have HG := Lib.hid hG
  obtain ⟨o, hrun, hmi⟩ := h1.nm.range Try.underlying96
  have HI := Lib.hid (show FI w (w1.alloc o) ap hp Mn Mk last F0 s0 R what first w1.heap.size R Ln0 Lk0 F0 l0 s0 Ln0 from ⟨h1.below (ba (Below.refl _ _) _), hmi, fun e => by have := h1.lt _ e; omega, .of_below _ (ba hb1 _), hb1.size, fun q hq => .inl hq, fun x hx => hx, fun x hx _ => hx, fun x hx _ => by
    have := (h1.perm.symm.subset (List.mem_map.2 ⟨x, hx, rfl⟩))
    exact ⟨_, this, rfl⟩, ⟨Int.le_refl _, Int.le_refl _⟩, Nat.le_refl _⟩)
  clear hmi h1 h0 hb1 hbd hG
  go_wp2
  generalize w1.heap.size = it at *
  go_loopw [7] (fun cv wr => ∃ (R' : List Rc) (Ln : List (Ky × Value)) (Lk : List (Int × Value)) (F : Nat → Prop) (l : List It) (s : Int) (todo : List (Ky × Value)) (n : Nat), cv = .int .i64 n ∧ n + R'.length = R.length ∧ Hid (FI w wr ap hp Mn Mk last F0 s0 R what first it R' Ln Lk F l s todo)) (fun _ wr => todoLen wr Mn it)
  case atStart => exact ⟨R, Ln0, Lk0, F0, l0, s0, Ln0, 0, rfl, by simp, HI⟩
  case round =>
    clear HI
    obtain ⟨R', Ln, Lk, F, l, s, todo, n, rfl, hlen, HQ⟩ := hrel
    obtain ⟨w2, rfl⟩ : ∃ w2, w2 = wr := ⟨_, rfl⟩
    rcases HQ.out.mi.next 0 with ⟨htd, hrn⟩ | ⟨p, j, w3, hj, hpL, hrn, hre, hmi, hch⟩
    · have hfr : R' = forgetR R what first := Srt.In.ext ordR HQ.out.ao.ri.srt (H0.out.ri.srt.filter _) fun x => by
        rw [List.mem_filter]
        constructor
        · intro hx
          refine ⟨HQ.out.sub x hx, ?_⟩
          cases hf : isF what first x.key with
          | false => rfl
          | true =>
            obtain ⟨p, hp, _⟩ := HQ.out.come x hx hf
            rw [htd] at hp; cases hp
        · rintro ⟨hx, hf⟩
          exact HQ.out.keep x hx (by simpa using hf)
      have HFR := Lib.hid hfr
      have HNN := Lib.hid (show n = R.length - (forgetR R what first).length by rw [← hfr]; omega)
      clear hfr htd
      go_wp2
      go_ret
      refine ⟨by rw [← HNN.out]; rfl, AG ap Mn Mk F, ⟨hp, Mn, Mk, last, Ln, Lk, F, l, s, by rw [← HFR.out]; exact HQ.out.ao, rfl, ?_⟩, by rw [HG.out]; exact HQ.out.chg, ?_⟩
      · rw [← HFR.out]
        have hb := HD.out
        have hst := HQ.out.st
        have hln := HQ.out.ln
        exact ⟨hb.l0, by have := hb.l1; omega, by have := hb.s0; omega, by have := hb.s1; omega, by have := hb.n1; omega, hc⟩
      · rintro k (rfl | rfl | rfl | hk)
        · rw [HG.out]; exact .inl (.inl rfl)
        · rw [HG.out]; exact .inl (.inr (.inl rfl))
        · rw [HG.out]; exact .inl (.inr (.inr (.inl rfl)))
        · rw [HG.out]
          rcases HQ.out.nw k hk with e | e
          · exact .inl (.inr (.inr (.inr e)))
          · exact .inr e
    · obtain ⟨k, pv⟩ := p
      have hlk : lkK Ln k = some pv := look_of_mem HQ.out.ao.nm.nodup hpL
      obtain ⟨y, hy⟩ : ∃ y, fK R' k = some y := by
        rw [HQ.out.ao.ln] at hlk
        cases hf : fK R' k with
        | none => rw [hf] at hlk; cases hlk
        | some y => exact ⟨y, rfl⟩
      have HK := Lib.hid (show KOk k by
        obtain ⟨a, b⟩ := Srt.fnd_mem hy
        rw [← b]; exact (HQ.out.ao.rng y a).2.2.1)
      have HY := Lib.hid hy
      have ncit : ∀ q, AG ap Mn Mk F q → ¬ q = it := fun q hq e => HQ.out.nit (e ▸ hq)
      have ao3 := HQ.out.ao.chg hch ncit
      have bel3 : Chg (AG ap Mn Mk F0) w w3 := HQ.out.chg.trans hch fun q e => by rw [e]; exact .inr HQ.out.it0
      have H3 := Lib.hid ao3
      have HC3 := Lib.hid bel3
      have HMI := Lib.hid hmi
      have HKM := Lib.hid (KB.made w3 k)
      have HBA := Lib.hid (show Below w3.heap.size w3 (w3.alloc (.cells #[.int .i64 k.1, .int .i64 k.2.1, .int .i64 k.2.2] 79)) from ba (Below.refl _ _) _)
      have HRE := Lib.hid (show (Instr.entry (.pointer (some ⟨it, 0, none⟩))).run Try.prog w3 = .ok (.tuple #[.agg #[.int .i64 k.1, .int .i64 k.2.1, .int .i64 k.2.2], pv]) w3 from hre)
      have HRN := Lib.hid (show (Instr.next (.pointer (some ⟨it, 0, none⟩)) false 0).run Try.prog w2 = .ok (.tuple #[.bool true, .agg #[.int .i64 k.1, .int .i64 k.2.1, .int .i64 k.2.2], pv]) w3 from hrn)
      have hit : it < w3.heap.size := hmi.lt.2
      have hin : ∀ q : Ky × Value, q ∈ todo → q.1 ≠ k → q ∈ todo.eraseIdx j := fun q hq hne => by
        have := (eraseA hj).symm.subset hq
        rcases List.mem_cons.1 this with e | e
        · rw [e] at hne; exact absurd rfl hne
        · exact e
      have hjl : j < todo.length := (List.getElem?_eq_some_iff.1 hj).1
      have hel : (todo.eraseIdx j).length + 1 = todo.length := by rw [List.length_eraseIdx, if_pos hjl]; omega
      have HL2 := Lib.hid (show todoLen w2 Mn it = (todo.eraseIdx j).length + 1 by rw [HQ.out.mi.left, hel])
      have HIN := Lib.hid hin
      clear hlk hy ncit ao3 bel3 hmi hrn hre hch hj hpL hin hjl hel c1 hl hrun
      have hre := HRE.out; have hrn := HRN.out
      cases hf : isF what first k with
      | false =>
        have HI := Lib.hid (show FI w (w3.alloc (.cells #[.int .i64 k.1, .int .i64 k.2.1, .int .i64 k.2.2] 79)) ap hp Mn Mk last F0 s0 R what first it R' Ln Lk F l s (todo.eraseIdx j) from ⟨H3.out.below HBA.out, HMI.out.below HBA.out, HQ.out.nit, HC3.out.then_below HBA.out, HQ.out.it0, HQ.out.nw, HQ.out.sub, HQ.out.keep, fun x hx hxf => (by
          obtain ⟨q, hq, he⟩ := HQ.out.come x hx hxf
          refine ⟨q, HIN.out q hq fun e => ?_, he⟩
          rw [← he, e, hf] at hxf; cases hxf), HQ.out.st, HQ.out.ln⟩)
        by_cases h1 : k.1 = what
        · have hb1 : (k.1 == what) = true := by simpa using h1
          have hb2 : (k.2.1 == first) = false := by
            unfold isF at hf; rw [hb1] at hf; simpa using hf
          clear hf h1
          go_wp2
          go_roundw
          case rel => exact ⟨R', Ln, Lk, F, l, s, todo.eraseIdx j, n, rfl, hlen, HI⟩
          case measure => rw [HL2.out, HI.out.mi.left]; omega
        · have hb1 : (k.1 == what) = false := by simpa using h1
          clear hf h1
          go_wp2
          go_roundw
          case rel => exact ⟨R', Ln, Lk, F, l, s, todo.eraseIdx j, n, rfl, hlen, HI⟩
          case measure => rw [HL2.out, HI.out.mi.left]; omega
      | true =>
        have hb1 : (k.1 == what) = true := by unfold isF at hf; simp at hf; simpa using hf.1
        have hb2 : (k.2.1 == first) = true := by unfold isF at hf; simp at hf; simpa using hf.2
        have HF := Lib.hid hf
        have HDR := Lib.hid (drop_raw (k := k) (H3.out.below HBA.out) (c := c + R.length) (by
          have hb := HD.out
          have hst := HQ.out.st
          have hln := HQ.out.ln
          exact ⟨hb.l0, by have := hb.l1; omega, by have := hb.s0; omega, by have := hb.s1; omega, by have := hb.n1; omega, hc⟩) HK.out)
        have hq : IntKind.i64.wrap ((n : Int) + 1) = ((n + 1 : Nat) : Int) := by
          have := HD.out.n1; have := HD.out.c1
          rw [IntWalk.i64_in _ (by omega)]; omega
        clear hf
        go_wp2_with fail
        refine HDR.out.mono ?_
        rintro e w4 ⟨rfl, Ln4, Lk4, F4, l4, s4, ao4, c4, n4, s41, s42, it4⟩
        have hdl : (dK R' k).length + 1 = R'.length := Srt.del_len H3.out.ri.srt HY.out
        have hbs := HBA.out.size
        have nit4 : ¬ AG ap Mn Mk F4 it := fun e => by
          rcases e with e | e | e | e
          · exact HQ.out.nit (.inl e)
          · exact HQ.out.nit (.inr (.inl e))
          · exact HQ.out.nit (.inr (.inr (.inl e)))
          · rcases n4 it e with e | e
            · exact HQ.out.nit (.inr (.inr (.inr e)))
            · omega
        have HI := Lib.hid (show FI w w4 ap hp Mn Mk last F0 s0 R what first it (dK R' k) Ln4 Lk4 F4 l4 s4 ((todo.eraseIdx j).filter fun p => decide (p.1 ≠ k)) from ⟨ao4, it4 it _ (HMI.out.below HBA.out) HQ.out.nit, nit4, (HC3.out.then_below HBA.out).trans c4 (fun q hq => by
            have hs3 := HC3.out.size
            rcases hq with e | e | e | e
            · exact .inl (.inl e)
            · exact .inl (.inr (.inl e))
            · exact .inl (.inr (.inr (.inl e)))
            · exact (HQ.out.nw q e).imp_left fun e => .inr (.inr (.inr e))), HQ.out.it0, (fun q hq => by
            have hs3 := HC3.out.size
            rcases n4 q hq with e | e
            · exact HQ.out.nw q e
            · exact .inr (by omega)), (fun x hx => HQ.out.sub x (Srt.mem_del.1 hx).1), (fun x hx hxf => Srt.mem_del.2 ⟨HQ.out.keep x hx hxf, fun e => by rw [e, HF.out] at hxf; cases hxf⟩), (fun x hx hxf => by
            obtain ⟨hx1, hx2⟩ := Srt.mem_del.1 hx
            obtain ⟨q, hq, he⟩ := HQ.out.come x hx1 hxf
            have hne : q.1 ≠ k := fun e => hx2 (by rw [← he, e])
            exact ⟨q, List.mem_filter.2 ⟨HIN.out q hq hne, by simpa using hne⟩, he⟩), (by have := HQ.out.st; omega), (by have := HQ.out.ln; omega)⟩)
        have HLN := Lib.hid hdl
        have HLF := Lib.hid (List.length_filter_le (fun p : Ky × Value => decide (p.1 ≠ k)) (todo.eraseIdx j))
        clear ao4 c4 n4 s41 s42 it4 nit4 hdl hbs hre hrn
        go_wp2
        go_roundw
        case rel => exact ⟨dK R' k, Ln4, Lk4, F4, l4, s4, _, n + 1, by first | rfl | simp, by have := HLN.out; omega, HI⟩
        case measure => rw [HL2.out, HI.out.mi.left]; have := HLF.out; omega
end
end Go.Proofs.Ytajcelmnblncaaa
