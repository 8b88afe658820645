/- The document's queues by a list: records, blocks, At. -/
import Derived.Test.YtnckjacbkhoppaaQ8
import Derived.Test.YtnckjacbkhoppaaSrt0
namespace Go.Proofs.Ytnckjacbkhoppaa
open Go.RowKit Go.Maps
attribute [local go_sem] ext_cell ext_frozen extC_cell extC_frozen Mix.calmUpon Mix.mUpon
structure On where
  frame : Int
  va : Option Addr
  vn : Nat
  vc : Nat
  l : List Ev
  lost : Int
def onenc (o : On) : List Value := [.int .i64 o.frame, .slice o.va o.vn o.vc, .int .i64 o.lost]
abbrev oval (o : On) : Value := .agg #[.int .i64 o.frame, .slice o.va o.vn o.vc, .int .i64 o.lost]
abbrev ov (o : On) : Value := .slice o.va o.vn o.vc
def On.pl (o : On) : Pq := ⟨o.frame, o.l.map Ev.pl, o.lost⟩
def ltO (a b : On) : Bool := decide (a.frame < b.frame)
theorem ordO : Srt.Ord On.frame ltO where
  irr := fun a => by simp [ltO]
  trans := fun a b c h k => by simp only [ltO, decide_eq_true_eq] at *; omega
  tot := fun a b h k => by simp only [ltO, decide_eq_true_eq, decide_eq_false_iff_not] at *; omega
abbrev fndO (S : List On) (k : Int) : Option On := Srt.fnd On.frame S k
abbrev putO (S : List On) (x : On) : List On := Srt.put On.frame ltO S x
abbrev delO (S : List On) (k : Int) : List On := Srt.del On.frame S k
abbrev SO (S : List On) : Prop := Srt.In On.frame ltO S
theorem plo_put (S : List On) (x : On) : (putO S x).map On.pl = putP (S.map On.pl) x.pl := Srt.map_put (key := On.frame) (lt := ltO) (key' := Pq.frame) (lt' := ltP) (f := On.pl) (fun _ => rfl) (fun _ _ => rfl) S x
theorem plo_del (S : List On) (k : Int) : (delO S k).map On.pl = delP (S.map On.pl) k := Srt.map_del (key := On.frame) (key' := Pq.frame) (f := On.pl) (fun _ => rfl) S k
theorem plo_fnd (S : List On) (k : Int) : fndP (S.map On.pl) k = (fndO S k).map On.pl := Srt.map_fnd (key := On.frame) (key' := Pq.frame) (f := On.pl) (fun _ => rfl) S k
abbrev OV1 (w : World) (v : Value) (S : List On) : Prop := RS 3 onenc w v S
abbrev mval (cap : Int) (v : Value) : Value := .agg #[.int .i64 cap, v]
/-- A block that holds a record. -/
def OB1 (w : World) (b : Nat) (f : On) : Prop := w.heap[b]? = some (.cells #[.int .i64 f.frame, .slice f.va f.vn f.vc, .int .i64 f.lost] 130 (0, 0))
theorem OB1.made (w : World) (f : On) : OB1 (w.alloc (.cells #[.int .i64 f.frame, .slice f.va f.vn f.vc, .int .i64 f.lost] 130)) w.heap.size f := heap_alloc_new w _
theorem OB1.alloc {w : World} {b : Nat} {f : On} (h : OB1 w b f) (o : Obj) : OB1 (w.alloc o) b f := (heap_alloc_old w o (Array.getElem?_eq_some_iff.1 h).1).trans h
theorem OB1.below {w w' : World} {b : Nat} {f : On} (h : OB1 w b f) (hb : Below w.heap.size w w') : OB1 w' b f := (hb.block _ (Array.getElem?_eq_some_iff.1 h).1).trans h
theorem OB1.chg {F : Nat → Prop} {w w' : World} {b : Nat} {f : On} (h : OB1 w b f) (hb : Chg F w w') (hf : ¬ F b) : OB1 w' b f := (hb.block _ (Array.getElem?_eq_some_iff.1 h).1 hf).trans h
theorem OB1.cells {w : World} {b : Nat} {f : On} (h : OB1 w b f) : w.cell? ⟨b, 0, none⟩ = some (.int .i64 f.frame) ∧ w.cell? ⟨b, 1, none⟩ = some (.slice f.va f.vn f.vc) ∧ w.cell? ⟨b, 2, none⟩ = some (.int .i64 f.lost) := by
  unfold OB1 at h
  simp [World.cell?, h]
theorem OB1.fz {w : World} {b : Nat} {f : On} (h : OB1 w b f) (o : Nat) : w.frozen? ⟨b, o, none⟩ = false := by
  unfold OB1 at h
  simp [World.frozen?, h]
theorem OB1.lt {w : World} {b : Nat} {f : On} (h : OB1 w b f) : b < w.heap.size := (Array.getElem?_eq_some_iff.1 h).1
theorem infoOn : (Try.prog.info? 130).map (fun i => (i.zero, i.size, i.bytes)) = some (some (.agg #[.int .i64 0, .slice none 0 0, .int .i64 0]), 3, 40) := by kernel_rfl
theorem own_appO {w : World} {base : Nat} {v : Value} {l : List On} {b : Nat} (h : OwnL 130 3 onenc w base v l) (x : On) (hx : OB1 w b x) (hl : l.length < 1000000) (hb : base ≤ w.heap.size) :
    ∃ v' w', (Builtin.append_ #[121, 121] 121 #[v, .slice (some ⟨b, 0, none⟩) 1 1]).run Try.prog w = .ok v' w' ∧ OwnL 130 3 onenc w' base v' (l ++ [x]) ∧ w.grownBy w' v.ownBlock ∧ (v'.ownBlock = v.ownBlock ∨ v'.ownBlock = some w.heap.size) := by
  obtain ⟨i0, hi, hz0, hz1, hz2⟩ := info_parts infoOn
  obtain ⟨x0, x1, x2⟩ := hx.cells
  exact OwnL.app h Try.underlying121 hi hz0 hz1 hz2 rfl (by decide) (fun _ => rfl) x (fun j u hj => by
      rcases j with _ | _ | _ | j <;> simp [onenc] at hj
      · subst hj; exact x0
      · subst hj; exact x1
      · subst hj; exact x2) (fun u hu => by simp [onenc] at hu; rcases hu with rfl | rfl | rfl <;> rfl) (by omega) (by unfold maxLen; omega) hb
section
variable {w : World} {v : Value} {S : List On} {cap : Int}
set_option maxRecDepth 100000 in
theorem mat (h : OV1 w v S) (k : Int) : Calls Try.prog 127 #[mval cap v, .int .i64 k] w fun e w' => e = .returned (.int .i64 (Srt.pl On.frame S k)) ∧ Below w.heap.size w w' := by
  obtain ⟨a, n, cp, rfl, hn, hc, hm, hat⟩ := h.at_
  have HA := Lib.hid hat
  unfold maxLen at hm
  have hlm : n ≤ 9223372036854775807 := by omega
  have HN := Lib.hid hn
  have HB := Lib.hid (show Below w.heap.size w (w.alloc (.cells #[.int .i64 cap, .slice a n cp] 123)) from ba (Below.refl _ _) _)
  clear hat h hn
  go_enter Try.func127, Try.ntmps127
  go_wp2
  go_loop [5] (fun iv => ∃ t : Nat, t ≤ n ∧ iv = .int .i64 t ∧ Hid (∀ p ∈ S.take t, p.frame ≠ k)) (fun iv => n - (intOf iv).toNat)
  case atStart => exact ⟨0, Nat.zero_le _, rfl, Lib.hid fun p h => by simp at h⟩
  case round =>
    obtain ⟨t, ht, rfl, HQ⟩ := hrel
    by_cases hlt : t < n
    · have hts : (t : Int) < (n : Int) := by omega
      obtain ⟨x, hx⟩ := at_lt (l := S) (i := t) (by rw [← HN.out]; exact hlt)
      obtain ⟨b, off, rfl, hb, hcell⟩ := HA.out t x hx
      have e0 := hcell 0 _ rfl
      simp only [Nat.add_zero] at e0
      have HX := Lib.hid hx
      clear hcell hx
      by_cases he : x.frame = k
      · have heb : (x.frame == k) = true := by simpa using he
        have HE := Lib.hid he
        clear he
        go_wp2
        go_ret
        refine ⟨?_, HB.out⟩
        have := Srt.pl_some (key := On.frame) (l := S.take t) (m := S.drop (t + 1)) HE.out HQ.out
        rw [← parted_at HX.out, List.length_take, Nat.min_eq_left (by rw [← HN.out]; omega)] at this
        rw [this]; rfl
      · have heb : (x.frame == k) = false := by simpa using he
        have HE := Lib.hid he
        clear he
        go_wp2
        go_round
        case rel => exact ⟨t + 1, by omega, by go_num, Lib.hid fun p hp => by
          rw [take_at HX.out] at hp
          rcases List.mem_append.1 hp with h | h
          · exact HQ.out p h
          · rw [List.mem_singleton.1 h]; exact HE.out⟩
        case measure => simp [intOf]; omega
    · obtain rfl : n = t := by omega
      go_wp2
      go_ret
      refine ⟨?_, HB.out⟩
      rw [Srt.pl_none fun p hp => HQ.out p (by rw [HN.out, List.take_length]; exact hp)]; rfl
end
end Go.Proofs.Ytnckjacbkhoppaa
