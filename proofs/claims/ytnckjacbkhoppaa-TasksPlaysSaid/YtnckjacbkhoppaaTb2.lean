/- tasks: those. -/
import Derived.Test.YtnckjacbkhoppaaTb0
import Derived.Test.YtnckjacbkhoppaaTb1
namespace Go.Proofs.Ytnckjacbkhoppaa
open Go.RowKit Go.Maps
attribute [local go_sem] ext_cell ext_frozen extC_cell extC_frozen Mix.calmUpon Mix.mUpon
/-- A function value that picks tasks, in the worlds of C. -/
structure PickF (fn : Nat) (caps : Array Value) (C : World → Prop) (p : Pk → Bool) : Prop where
  cf : ∀ (x : Value) (w : World), (callFunc fn (#[x] ++ caps)).run Try.prog w = .ok (.enter fn (#[x] ++ caps)) w
  call : ∀ (w : World) (x : Tk), C w → Calls Try.prog fn (#[tkval x] ++ caps) w fun e w' => e = .returned (.bool (p x.pl)) ∧ Below w.heap.size w w'
  clo : ∀ w w', C w → Below w.heap.size w w' → C w'
section
variable {w : World} {B tp M : Nat} {cap : Int} {S : List Tk} {L : List (K2 × Value)}
set_option maxRecDepth 100000 in
set_option maxHeartbeats 4000000 in
theorem tthose (h : TT w B tp M cap S L) (hln : S.length < 1000000) {fn : Nat} {caps : Array Value} {CC : World → Prop} {p : Pk → Bool} (hp : PickF fn caps CC p) (hC : CC w) : Calls Try.prog 98 #[ptr tp, .func (.func fn) #[] caps] w (RetT w ((S.map Tk.pl).filter p)) := by
  obtain ⟨R0, hLR, hR⟩ := h.ents
  have c1 := h.c1
  have hl := h.lt.1
  obtain ⟨o, hrun, hmi⟩ := h.map.range Try.underlying112
  have HI := Lib.hid (show TG w (w.alloc o) M w.heap.size L S p (.slice none 0 0) [] [] R0 from ⟨by rw [← hLR]; exact hmi, OwnL.nil _ _ _ _ _, by simpa using hR, rfl, (fun x hx => by cases hx), (fun x hx => by cases hx), ba (Below.refl _ _) _, ⟨Nat.le_refl _, h.lt.2⟩, by simp [Value.ownBlock]⟩)
  have HM := Lib.hid (tmade h)
  have HS := Lib.hid h.srt
  have HV := Lib.hid (show ∀ x ∈ S, Vc w x.vv x.ps ∧ x.ps.length < 1000000 from fun x hx => ⟨(h.vec x hx).vc, (h.num x hx).2.2.2.2⟩)
  have HP := Lib.hid hp; have HC := Lib.hid hC
  have hcf := hp.cf
  clear h hR hLR hmi hp hC
  go_enter Try.func98, Try.ntmps98
  go_wp2_with fail
  refine HM.out.mono ?_
  rintro e w1 ⟨rfl, rfl⟩
  go_wp2
  obtain ⟨it, hit⟩ : ∃ it, it = w1.heap.size := ⟨_, rfl⟩
  rw [← hit] at HI
  rw [← hit]
  have HIT := Lib.hid hit
  clear hit hrun c1 hl
  go_loopw [5] (fun lv wr => ∃ (C D R : List Tk), Hid (TG w1 wr M it L S p lv C D R)) (fun _ wr => leftN wr M it)
  case atStart => exact ⟨[], [], R0, HI⟩
  case round =>
    clear HI
    obtain ⟨C, D, R, HG⟩ := hrel
    obtain ⟨w2, rfl⟩ : ∃ w2, w2 = wr := ⟨_, rfl⟩
    rcases HG.out.mi.next 0 with ⟨htd, hrn⟩ | ⟨pe, j, w3, hj, _, hrn, hre, hmi, hch⟩
    · obtain rfl : R = [] := by simpa using htd
      have hkk := HG.out.keys HS.out
      have hcl := HG.out.len
      have HSRT := Lib.hid (tsort HG.out.own hkk.1 (fun x hx => by
        obtain ⟨xa, xc, hxv, -, -⟩ := (HG.out.vec x hx).vc.form
        rw [hxv]; rfl) (by omega))
      have HOW := Lib.hid HG.out.own.lt
      have HPP := Lib.hid hkk.2
      clear htd hkk hcl
      go_wp2_with fail
      refine HSRT.out.mono ?_
      rintro e w4 ⟨rfl, ⟨S', hs1, hs2, hrs⟩, hc⟩
      have HRS := Lib.hid (show TL w4 u5 S' ∧ S'.map Tk.pl = (S.map Tk.pl).filter p from ⟨⟨hrs, fun x hx => by
          have hxC := hs2.subset hx
          exact (OwnP.vc (ownsRow_chg (HG.out.vec x hxC) hc fun b hb e => (HG.out.vb x hxC b hb).1 e))⟩,
        Srt.In.ext ordK (Srt.map_in (key := tkey) (lt := ltT) (key' := pkey) (lt' := ltK) (f := Tk.pl) (fun _ => rfl) (fun _ _ => rfl) hs1) ((Srt.map_in (key := tkey) (lt := ltT) (key' := pkey) (lt' := ltK) (f := Tk.pl) (fun _ => rfl) (fun _ _ => rfl) HS.out).filter p) fun x => ((hs2.map Tk.pl).trans HPP.out).mem_iff⟩)
      have HRV := Lib.hid (show ∀ x ∈ S', ∀ b, x.vv.ownBlock = some b → w1.heap.size ≤ b from fun x hx b hb => ((HG.out.vec x (hs2.subset hx)).lt b hb).1)
      have HC4 := Lib.hid hc
      clear hrs hc hrn hs1 hs2
      go_wp2
      go_ret
      exact ⟨u5, S', rfl, HRS.out.1, HRS.out.2, fun b hb => (HOW.out b hb).1, HRV.out, ((Chg.of_below _ HG.out.bel).same HC4.out).below (Nat.le_refl _) fun k hk => (HOW.out k hk).1⟩
    · obtain ⟨x, hx, rfl⟩ := map_at hj
      have hxS := HG.out.mem hx
      have hbel3 : Below w1.heap.size w1 w3 := HG.out.bel.trans (hch.below HG.out.bel.size fun k e => by rw [e]; exact HG.out.it0.1)
      have hV := HV.out x hxS
      have hleft := HG.out.left
      have hjl : j < R.length := (List.getElem?_eq_some_iff.1 hx).1
      have HMI := Lib.hid hmi; have HCH := Lib.hid hch; have HX := Lib.hid hx
      obtain ⟨xf, xi, xa, xv, xs⟩ := x
      obtain ⟨va, vc, hvv, -, -⟩ := hV.1.form
      simp only at hvv
      subst hvv
      generalize hm : xs.length = m at *
      have hb4 := ba (Below.refl w3.heap.size w3) (.cells #[.int .i64 xf, .int .i64 xi, .int .i64 xa, .slice va m vc] 95)
      have HK4 := Lib.hid (KB.made w3 xf xi xa (.slice va m vc))
      have HB4 := Lib.hid hb4
      have HBE := Lib.hid hbel3
      have HVX := Lib.hid hV
      have HMQ := Lib.hid hm
      have HRE := Lib.hid (show (Instr.entry (.pointer (some ⟨it, 0, none⟩))).run Try.prog w3 = .ok (.tuple #[.agg #[.int .i64 xf, .int .i64 xi], .agg #[.int .i64 xf, .int .i64 xi, .int .i64 xa, .slice va m vc]]) w3 from hre)
      have HRN := Lib.hid (show (Instr.next (.pointer (some ⟨it, 0, none⟩)) false 0).run Try.prog w2 = .ok (.tuple #[.bool true, .agg #[.int .i64 xf, .int .i64 xi], .agg #[.int .i64 xf, .int .i64 xi, .int .i64 xa, .slice va m vc]]) w3 from hrn)
      clear hrn hre hmi hch hx hb4 hbel3 hV hj hm hxS
      have hre := HRE.out; have hrn := HRN.out
      go_wp2_with fail
      clear hre hrn HRE HRN
      generalize w3.alloc (.cells #[.int .i64 xf, .int .i64 xi, .int .i64 xa, .slice va m vc] 95) = w4 at *
      obtain ⟨b, hb⟩ : ∃ b, b = w3.heap.size := ⟨_, rfl⟩
      rw [← hb] at HK4 ⊢
      have hbe4 : Below w1.heap.size w1 w4 := HBE.out.trans (HB4.out.mono HBE.out.size)
      refine (HP.out.call w4 ⟨xf, xi, xa, .slice va m vc, xs⟩ (HP.out.clo _ _ HC.out hbe4)).mono ?_
      rintro e w5 ⟨rfl, hb5⟩
      have HB5 := Lib.hid hb5
      have HBQ := Lib.hid hb
      have HB35 := Lib.hid (show Below w3.heap.size w3 w5 from bt HB4.out hb5)
      have HBE5 := Lib.hid (show Below w1.heap.size w1 w5 from hbe4.trans (hb5.mono hbe4.size))
      have HK5 := Lib.hid (HK4.out.below hb5)
      clear hb5 hb hbe4
      by_cases hpx : p (Tk.pl ⟨xf, xi, xa, .slice va m vc, xs⟩) = true
      · rw [hpx]
        obtain ⟨k0, k1, k2, k3⟩ := HK5.out.cells
        have k4 := HK5.out.lt
        have HPX := Lib.hid hpx
        clear hpx
        go_wp2_with fail
        refine (tcopied (w := w5) xf xi xa (ps := xs) (HVX.out.1.on HBE5.out) (by rw [HMQ.out]; exact HVX.out.2)).mono ?_
        rintro e w6 ⟨u, rfl, hu, hb6⟩
        obtain ⟨ua, uc, rfl, -, -⟩ := hu.vc.form
        rw [HMQ.out] at *
        have hb7 := ba (Below.refl w6.heap.size w6) (.cells #[.int .i64 xf, .int .i64 xi, .int .i64 xa, .slice ua m uc] 95)
        have hs5 := HB35.out.size; have hs6 := hb6.size
        obtain ⟨v', w8, hra, hG8, hc8, -⟩ := HG.out.add (p := p) HX.out HMI.out HCH.out HPX.out (bt HB35.out (bt hb6 hb7)) (u := .slice ua m uc) (ownsRow_base (ownsRow_chg hu (.of_below (fun _ => False) hb7) fun _ _ => id) (by omega)) (KB.made w6 xf xi xa (.slice ua m uc)) rfl (by omega)
        have HRA := Lib.hid hra; have HG8 := Lib.hid hG8
        clear hra hG8 hc8 hu hb6 hb7 k0 k1 k2 k3 k4 hs5 hs6
        go_wp2_with (at_builtin; refine wpList_app_run rfl _ _ _ rfl rfl rfl HRA.out ?_)
        go_roundw
        case rel => exact ⟨_, _, _, HG8⟩
        case measure =>
          have h1 := HG8.out.left
          rw [List.length_eraseIdx, if_pos hjl] at h1
          show leftN _ M it < leftN _ M it
          omega
      · obtain hpf : p (Tk.pl ⟨xf, xi, xa, .slice va m vc, xs⟩) = false := by simpa using hpx
        rw [hpf]
        have HG5 := Lib.hid ((HG.out.skip HX.out HMI.out HCH.out hpf).on HB35.out)
        clear hpx hpf
        go_wp2
        go_roundw
        case rel => exact ⟨_, _, _, HG5⟩
        case measure =>
          have h1 := HG5.out.left
          rw [List.length_eraseIdx, if_pos hjl] at h1
          show leftN _ M it < leftN _ M it
          omega
end
end Go.Proofs.Ytnckjacbkhoppaa
