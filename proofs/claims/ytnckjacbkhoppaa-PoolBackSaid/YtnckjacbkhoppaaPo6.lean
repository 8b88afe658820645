/- pool: manciplelaw15.works. -/
import Derived.Test.YtnckjacbkhoppaaPo5
import Derived.Test.YtnckjacbkhoppaaVrS
namespace Go.Proofs.Ytnckjacbkhoppaa
open Go.RowKit Go.Maps
attribute [local go_sem] ext_cell ext_frozen extC_cell extC_frozen Mix.calmUpon Mix.mUpon
theorem Vc.made {w : World} {b : Nat} {l : List Pt} {e : TypeId} {fz : Nat × Nat} (h : w.heap[b]? = Option.some (.cells (pcells l).toArray e fz)) (hl : l.length ≤ maxLen) : Vc w (.slice (Option.some ⟨b, 0, Option.none⟩) l.length l.length) l := by
  refine .inr ⟨b, 0, l.length, rfl, Nat.le_refl _, hl, (Array.getElem?_eq_some_iff.1 h).1, fun i hi => ?_⟩
  have hc : ∀ o, w.cell? ⟨b, o, Option.none⟩ = (pcells l)[o]? := fun o => by simp [World.cell?, h]
  obtain ⟨h0, h1, h2⟩ := pcells_get l i hi
  rw [hc, hc, hc, Nat.zero_add]
  exact ⟨h0, h1, h2⟩
theorem rs_made' {α : Type} {k : Nat} {enc : α → List Value} (hk : ∀ x, (enc x).length = k) {w : World} {b : Nat} {l : List α} {cap : Nat} {e : TypeId} {fz : Nat × Nat} (h : w.heap[b]? = some (.cells (l.flatMap enc).toArray e fz)) (hc : l.length ≤ cap) (hm : cap ≤ maxLen) :
    RS k enc w (.slice (some ⟨b, 0, none⟩) l.length cap) l := by
  refine ⟨_, cap, rfl, hc, hm, fun _ => ⟨b, 0, rfl, (Array.getElem?_eq_some_iff.1 h).1, fun i hi j u hu => ?_⟩⟩
  have hj : j < k := by
    have := (List.getElem?_eq_some_iff.1 hu).1
    rw [hk] at this; exact this
  have := flat_at hk l i hi j hj
  rw [hu] at this
  simp only [World.cell?, h, List.getElem?_toArray]
  rw [Nat.zero_add]; exact this
abbrev wv4 : List Pt := [(0, 0, 4000)]
abbrev wva : List Pt := [(0, 0, 1000)]
abbrev wvb : List Pt := [(0, 0, 2000), (0, 2, 1000)]
abbrev wvc : List Pt := [(0, 0, 3000), (0, 2, 1000)]
abbrev wl0 : List Qo := [(2, 0, wva), (1, 7, wvb)]
set_option maxRecDepth 100000 in
theorem wr1 : runS wv4 2 wl0 = (wva, 0) := by kernel_rfl
set_option maxRecDepth 100000 in
theorem wr2 : movS wv4 2 wl0 = (wvc, 0) := by kernel_rfl
theorem wr3 : forB 2 wl0 = false ∧ forB 3 wl0 = true ∧ cntL wl0 = 1 := by decide
theorem wi64 : I64s wva ∧ I64s wvb := by
  refine ⟨fun p hp => ?_, fun p hp => ?_⟩
  · rw [List.mem_singleton.1 hp]; exact ⟨⟨by decide, by decide⟩, ⟨by decide, by decide⟩, ⟨by decide, by decide⟩⟩
  · rcases List.mem_cons.1 hp with rfl | hp
    · exact ⟨⟨by decide, by decide⟩, ⟨by decide, by decide⟩, ⟨by decide, by decide⟩⟩
    · rw [List.mem_singleton.1 hp]; exact ⟨⟨by decide, by decide⟩, ⟨by decide, by decide⟩, ⟨by decide, by decide⟩⟩
abbrev wops (b2 b3 : Nat) : List Po := [⟨2, 0, .slice (some ⟨b2, 0, none⟩) 1 1, wva⟩, ⟨1, 7, .slice (some ⟨b3, 0, none⟩) 2 2, wvb⟩]
set_option maxRecDepth 100000 in
set_option maxHeartbeats 4000000 in
theorem works15 (W : World) : Calls Try.prog 20 #[] W fun e W' => e = .returned (.bool true) ∧ Below W.heap.size W W' := by
  obtain ⟨w1, hw1⟩ : ∃ u, W.alloc (.cells #[.int .i64 0, .int .i64 0, .int .i64 4000] 86) = u := ⟨_, rfl⟩
  obtain ⟨w2, hw2⟩ : ∃ u, w1.alloc (.cells #[.int .i64 0, .int .i64 0, .int .i64 1000] 86) = u := ⟨_, rfl⟩
  obtain ⟨w3, hw3⟩ : ∃ u, w2.alloc (.cells #[.int .i64 0, .int .i64 0, .int .i64 2000, .int .i64 0, .int .i64 2, .int .i64 1000] 86) = u := ⟨_, rfl⟩
  obtain ⟨w4, hw4⟩ : ∃ u, w3.alloc (.cells #[.int .i64 2, .int .i64 0, .slice (some ⟨w1.heap.size, 0, none⟩) 1 1, .int .i64 1, .int .i64 7, .slice (some ⟨w2.heap.size, 0, none⟩) 2 2] 40) = u := ⟨_, rfl⟩
  have b1 : Below W.heap.size W w1 := by rw [← hw1]; exact ba (Below.refl _ _) _
  have b2 : Below w1.heap.size w1 w2 := by rw [← hw2]; exact ba (Below.refl _ _) _
  have b3 : Below w2.heap.size w2 w3 := by rw [← hw3]; exact ba (Below.refl _ _) _
  have b4 : Below w3.heap.size w3 w4 := by rw [← hw4]; exact ba (Below.refl _ _) _
  have v1 : Vc w1 (.slice (some ⟨W.heap.size, 0, none⟩) 1 1) wv4 := Vc.made (l := wv4) (by rw [← hw1]; exact heap_alloc_new W _) (by decide)
  have v2 : Vc w2 (.slice (some ⟨w1.heap.size, 0, none⟩) 1 1) wva := Vc.made (l := wva) (by rw [← hw2]; exact heap_alloc_new w1 _) (by decide)
  have v3 : Vc w3 (.slice (some ⟨w2.heap.size, 0, none⟩) 2 2) wvb := Vc.made (l := wvb) (by rw [← hw3]; exact heap_alloc_new w2 _) (by decide)
  have r4 : RS 3 poenc w4 (.slice (some ⟨w3.heap.size, 0, none⟩) 2 2) (wops w1.heap.size w2.heap.size) := rs_made' (k := 3) (enc := poenc) (l := wops w1.heap.size w2.heap.size) (cap := 2) (fun _ => rfl) (by rw [← hw4]; exact heap_alloc_new w3 _) (Nat.le_refl _) (by decide)
  have hO : OL w4 (.slice (some ⟨w3.heap.size, 0, none⟩) 2 2) (wops w1.heap.size w2.heap.size) := ⟨r4, fun x hx => by
    rcases List.mem_cons.1 hx with rfl | hx
    · exact v2.on (bt b3 b4)
    · rw [List.mem_singleton.1 hx]; exact v3.on b4⟩
  have hG : OG (wops w1.heap.size w2.heap.size) := fun x hx => by
    rcases List.mem_cons.1 hx with rfl | hx
    · exact ⟨wi64.1, by show (1 : Nat) < 1000000; decide⟩
    · rw [List.mem_singleton.1 hx]; exact ⟨wi64.2, by show (2 : Nat) < 1000000; decide⟩
  have HV := Lib.hid (v1.on (bt b2 (bt b3 b4)))
  have HO := Lib.hid hO; have HG := Lib.hid hG
  have HB4 := Lib.hid (bt b1 (bt b2 (bt b3 b4)))
  have h1s : W.heap.size + 1 = w1.heap.size := by rw [← hw1]; simp
  have h2s : w1.heap.size + 1 = w2.heap.size := by rw [← hw2]; simp
  have h3s : w2.heap.size + 1 = w3.heap.size := by rw [← hw3]; simp
  have h4s : w3.heap.size + 1 = w4.heap.size := by rw [← hw4]; simp
  clear b1 b2 b3 b4 v1 v2 v3 r4 hO hG h1s h2s h3s h4s
  go_enter Try.func20, Try.ntmps20
  go_wp2_with fail
  have hrun := Run_any (W := w4) 2 (by decide) HV.out HO.out HG.out
  rw [show (wops w1.heap.size w2.heap.size).map Po.pl = wl0 from rfl, wr1] at hrun
  have hmov := fun w (hb : Below w4.heap.size w4 w) => Moved_any (W := w) 2 (by decide) (HV.out.on hb) (HO.out.below hb) HG.out (by show (2 : Nat) < 900000; decide)
  rw [show (wops w1.heap.size w2.heap.size).map Po.pl = wl0 from rfl, wr2] at hmov
  have hcnt := fun w (hb : Below w4.heap.size w4 w) => Tasks_any (W := w) (HO.out.below hb)
  rw [show (wops w1.heap.size w2.heap.size).map Po.pl = wl0 from rfl, wr3.2.2] at hcnt
  have hf2 := fun w (hb : Below w4.heap.size w4 w) => Foreign_any 2 _ _ (fun x hx => (HG.out x hx).2) w (HO.out.below hb)
  have hf3 := fun w (hb : Below w4.heap.size w4 w) => Foreign_any 3 _ _ (fun x hx => (HG.out x hx).2) w (HO.out.below hb)
  rw [show (wops w1.heap.size w2.heap.size).map Po.pl = wl0 from rfl, wr3.1] at hf2
  rw [show (wops w1.heap.size w2.heap.size).map Po.pl = wl0 from rfl, wr3.2.1] at hf3
  have HMOV := Lib.hid hmov; have HCNT := Lib.hid hcnt; have HF2 := Lib.hid hf2; have HF3 := Lib.hid hf3
  clear hmov hcnt hf2 hf3 hw1 hw2 hw3 hw4
  refine hrun.mono ?_
  rintro e w5 ⟨v5, rfl, hv5, hb5⟩
  clear hrun
  have HV5 := Lib.hid hv5; have HB5 := Lib.hid hb5
  clear hv5 hb5
  go_wp2_with fail
  refine (HMOV.out w5 HB5.out).mono ?_
  rintro e w6 ⟨v6, rfl, hv6, hb6⟩
  have HV6 := Lib.hid hv6; have HB6 := Lib.hid (bt HB5.out hb6)
  have HV5' := Lib.hid (HV5.out.on hb6)
  have hb7 := ba (Below.refl w6.heap.size w6) (.cells #[.int .i64 0, .int .i64 0, .int .i64 1000] 86)
  have HB7 := Lib.hid (bt HB6.out hb7)
  have HV6' := Lib.hid (hv6.on hb7)
  have hva : Vc (w6.alloc (.cells #[.int .i64 0, .int .i64 0, .int .i64 1000] 86)) (.slice (some ⟨w6.heap.size, 0, none⟩) 1 1) wva := Vc.made (l := wva) (heap_alloc_new w6 _) (by decide)
  have hs7 := rsame_any v5 (.slice (some ⟨w6.heap.size, 0, none⟩) 1 1) wva wva (by decide) _ ⟨HV5'.out.on hb7, hva⟩
  rw [show decide (wva = wva) = true from rfl] at hs7
  have HS7 := Lib.hid hs7
  clear hv6 hb6 hb7 hva hs7
  go_wp2_with fail
  generalize w6.alloc (.cells #[.int .i64 0, .int .i64 0, .int .i64 1000] 86) = w7 at *
  refine HS7.out.mono ?_
  rintro e w8 ⟨rfl, hb8⟩
  have hb9 := ba (Below.refl w8.heap.size w8) (.cells #[.int .i64 0, .int .i64 0, .int .i64 3000, .int .i64 0, .int .i64 2, .int .i64 1000] 86)
  have HB9 := Lib.hid (bt HB7.out (bt hb8 hb9))
  have hvc : Vc (w8.alloc (.cells #[.int .i64 0, .int .i64 0, .int .i64 3000, .int .i64 0, .int .i64 2, .int .i64 1000] 86)) (.slice (some ⟨w8.heap.size, 0, none⟩) 2 2) wvc := Vc.made (l := wvc) (heap_alloc_new w8 _) (by decide)
  have hs9 := rsame_any v6 (.slice (some ⟨w8.heap.size, 0, none⟩) 2 2) wvc wvc (by decide) _ ⟨HV6'.out.on (bt hb8 hb9), hvc⟩
  rw [show decide (wvc = wvc) = true from rfl] at hs9
  have HS9 := Lib.hid hs9
  clear hb8 hb9 hvc hs9
  go_wp2_with fail
  generalize w8.alloc (.cells #[.int .i64 0, .int .i64 0, .int .i64 3000, .int .i64 0, .int .i64 2, .int .i64 1000] 86) = w9 at *
  refine HS9.out.mono ?_
  rintro e w10 ⟨rfl, hb10⟩
  have HB10 := Lib.hid (bt HB9.out hb10)
  clear hb10
  go_wp2_with fail
  refine (HCNT.out w10 HB10.out).mono ?_
  rintro e w11 ⟨rfl, hb11⟩
  have HB11 := Lib.hid (bt HB10.out hb11)
  clear hb11
  go_wp2_with fail
  refine (HF2.out w11 HB11.out).mono ?_
  rintro e w12 ⟨rfl, hb12⟩
  have HB12 := Lib.hid (bt HB11.out hb12)
  clear hb12
  go_wp2_with fail
  refine (HF3.out w12 HB12.out).mono ?_
  rintro e w13 ⟨rfl, hb13⟩
  have HB13 := Lib.hid (bt HB12.out hb13)
  clear hb13
  go_wp2
  go_ret
  exact ⟨rfl, bt HB4.out HB13.out⟩
end Go.Proofs.Ytnckjacbkhoppaa
