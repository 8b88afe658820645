/- queue: Those. -/
import Derived.Test.YtnckjacbkhoppaaQ5
import Derived.Test.YtnckjacbkhoppaaMapI
import Derived.Test.YtnckjacbkhoppaaSrtI
namespace Go.Proofs.Ytnckjacbkhoppaa
open Go.RowKit Go.Maps
open Go.ChangeMaps (setBlock)
attribute [local go_sem] ext_cell ext_frozen extC_cell extC_frozen Mix.calmUpon Mix.mUpon
theorem infoI64 : (Try.prog.info? 2).map (fun i => (i.zero, i.size, i.bytes)) = some (some (.int .i64 0), 1, 8) := by kernel_rfl
def lenV : Value → Nat
  | .slice _ n _ => n
  | _ => 0
theorem iapp {w : World} {base : Nat} {v : Value} {l : List Int} {b : Nat} (h : OwnL 2 1 ienc w base v l) (x : Int) (hx : w.cell? ⟨b, 0, none⟩ = some (.int .i64 x)) (hl : l.length < 1000000) (hb : base ≤ w.heap.size) :
    ∃ v' w', (Builtin.append_ #[73, 73] 73 #[v, .slice (some ⟨b, 0, none⟩) 1 1]).run Try.prog w = .ok v' w' ∧ OwnL 2 1 ienc w' base v' (l ++ [x]) ∧ w.grownBy w' v.ownBlock ∧ (v'.ownBlock = v.ownBlock ∨ v'.ownBlock = some w.heap.size) := by
  obtain ⟨i0, hi, hz0, hz1, hz2⟩ := info_parts infoI64
  exact OwnL.app h Try.underlying73 hi hz0 hz1 hz2 rfl (by decide) ienc_len x (fun j u hj => by
    rcases j with _ | j <;> simp [ienc] at hj
    subst hj; exact hx) (fun u hu => by simp [ienc] at hu; rw [hu]; rfl) (by omega) (by unfold maxLen; omega) hb
theorem erase_perm {α : Type} : ∀ {l : List α} {j : Nat} {x : α}, l[j]? = some x → (x :: l.eraseIdx j).Perm l
  | [], j, x, h => by simp at h
  | a :: t, 0, x, h => by
    simp at h; subst h; exact .refl _
  | a :: t, j + 1, x, h => by
    rw [List.eraseIdx_cons_succ]
    exact (List.Perm.swap a x _).trans ((erase_perm (by simpa using h)).cons a)
section
variable {w : World} {B qp M : Nat} {most : Int} {N : Nat} {S : List Qr} {L : List (Int × Value)}
theorem QB.keys (h : QB w B qp M most N S L) : (L.map (·.1)).Perm (S.map Qr.frame) := by
  have hn := h.map.nodup
  have hS : (S.map Qr.frame).Nodup := List.pairwise_map.2 (h.srt.imp fun e => e.2)
  refine (List.perm_ext_iff_of_nodup hn hS).2 fun k => ?_
  constructor
  · intro hp
    obtain ⟨p, hpL, rfl⟩ := List.mem_map.1 hp
    have := look_of_mem hn (x := p.1) (v := p.2) hpL
    rw [h.look] at this
    cases hf : fndR S p.1 with
    | none => rw [hf] at this; cases this
    | some f => exact List.mem_map.2 ⟨f, (Srt.fnd_mem hf).1, (Srt.fnd_mem hf).2⟩
  · intro hp
    obtain ⟨f, hf, rfl⟩ := List.mem_map.1 hp
    have h1 := h.look f.frame
    rw [show fndR S f.frame = some f from h.srt.fnd hf] at h1
    exact List.mem_map.2 ⟨_, look_mem h1, rfl⟩
/-- Where ranging over the queues stands. -/
structure QG (W wr : World) (M it : Nat) (L : List (Int × Value)) (K : List Int) (v : Value) (C : List Int) (todo : List (Int × Value)) : Prop where
  mi : MapI K64 wr M it L todo
  own : OwnL 2 1 ienc wr W.heap.size v C
  perm : (C ++ todo.map (·.1)).Perm K
  bel : Below W.heap.size W wr
  it0 : W.heap.size ≤ it
  off : v.ownBlock ≠ some it
end
section
variable {w : World} {B qp M : Nat} {most : Int} {N : Nat} {T : List Pq} {F V : Nat → Prop}
set_option maxRecDepth 100000 in
set_option maxHeartbeats 1000000 in
theorem qthose (h : QT w B qp M most N T F V) (hT : T.length < 1000000) : Calls Try.prog 69 #[ptr qp] w fun e w' => ∃ u, e = .returned u ∧ RS 1 ienc w' u (T.map Pq.frame) ∧ (∀ b, u.ownBlock = some b → w.heap.size ≤ b ∧ b < w'.heap.size) ∧ Below w.heap.size w w' := by
  obtain ⟨S, L, hQ, rfl, -, -, -, -⟩ := h
  have HQ := Lib.hid hQ
  obtain ⟨K, hK⟩ : ∃ K, K = S.map Qr.frame := ⟨_, rfl⟩
  have hKS : (S.map Qr.pl).map Pq.frame = K := by rw [hK, List.map_map]; rfl
  have HKS := Lib.hid hKS
  have HSK := Lib.hid (show K.Pairwise (· < ·) from by rw [hK]; exact List.pairwise_map.2 (hQ.srt.imp fun e => by have := e.1; simpa [ltR] using this))
  have hKL : K.length < 1000000 := by rw [hK]; simpa using hT
  have c1 := hQ.c1
  have hl := hQ.lt.1
  obtain ⟨o, hrun, hmi⟩ := hQ.map.range Try.underlying135
  have hLS : L.length = K.length := by rw [hK, List.length_map]; exact hQ.len
  have HI := Lib.hid (show QG w (w.alloc o) M w.heap.size L K (.slice none 0 0) [] L from ⟨hmi, OwnL.nil _ _ _ _ _, by rw [hK]; exact hQ.keys, ba (Below.refl _ _) _, Nat.le_refl _, by simp [Value.ownBlock]⟩)
  have HN := Lib.hid (show M < w.heap.size from hQ.lt.2)
  clear hmi hQ hKS hK hT
  go_enter Try.func69, Try.ntmps69
  go_wp2
  obtain ⟨it, hit⟩ : ∃ it, it = w.heap.size := ⟨_, rfl⟩
  rw [← hit] at HI
  rw [← hit]
  have HIT := Lib.hid hit
  clear hit
  go_loopw [3] (fun lv wr => ∃ (C : List Int) (todo : List (Int × Value)), lenV lv = C.length ∧ C.length + todo.length = K.length ∧ Hid (QG w wr M it L K lv C todo)) (fun lv _ => K.length - lenV lv)
  case atStart => exact ⟨[], L, rfl, by simpa using hLS, HI⟩
  case round =>
    clear HI
    obtain ⟨C, todo, hlv, hlen, HG⟩ := hrel
    obtain ⟨w2, rfl⟩ : ∃ w2, w2 = wr := ⟨_, rfl⟩
    rcases HG.out.mi.next 0 with ⟨htd, hrn⟩ | ⟨p, j, w3, hj, _, hrn, hre, hmi, hch⟩
    · have hp := HG.out.perm
      rw [htd, List.map_nil, List.append_nil] at hp
      have HSRT := Lib.hid (isort HG.out.own hp HSK.out (by have := hp.length_eq; omega))
      have HOW := Lib.hid HG.out.own.lt
      have HBB := Lib.hid HG.out.bel
      clear hp htd
      go_wp2_with fail
      refine HSRT.out.mono ?_
      rintro e w4 ⟨rfl, hrs, hc⟩
      have HRS := Lib.hid hrs
      have HC := Lib.hid hc
      clear hrs hc hrn
      go_wp2
      go_ret
      exact ⟨u3, rfl, by rw [HKS.out]; exact HRS.out, fun b hb => ⟨(HOW.out b hb).1, Nat.lt_of_lt_of_le (HOW.out b hb).2 HC.out.size⟩, ((Chg.of_below _ HBB.out).same HC.out).below (Nat.le_refl _) fun k hk => (HOW.out k hk).1⟩
    · have hol := HG.out.own.lt
      have hoff := HG.out.off
      have hpm : ((C ++ [p.1]) ++ (todo.eraseIdx j).map (·.1)).Perm K := by
        refine List.Perm.trans ?_ HG.out.perm
        rw [List.append_assoc]
        refine List.Perm.append_left _ ?_
        rw [← List.map_singleton (f := fun q : Int × Value => q.1), ← List.map_append]
        exact (erase_perm hj).map _
      obtain ⟨pk, pv⟩ := p
      have own3 : OwnL 2 1 ienc w3 w.heap.size u3 C := HG.out.own.chg hch fun b hb e => hoff (by rw [hb, e])
      have bel3 : Below w.heap.size w w3 := HG.out.bel.trans (hch.below HG.out.bel.size fun k e => by rw [e]; exact HG.out.it0)
      have hbb : Below w3.heap.size w3 (w3.alloc (.cells #[.int .i64 pk] 2)) := ba (Below.refl _ _) _
      obtain ⟨v2, w6, hra, o6, g6, b6⟩ := iapp (b := w3.heap.size) (own3.below hbb) pk (by simp) (by omega) (by simp; have := bel3.size; omega)
      have hcg : Chg (fun k => u3.ownBlock = some k) w3 w6 := (Chg.of_below _ hbb).same (.of_grown g6 fun k e => e)
      have HRA := Lib.hid hra
      have HRE := Lib.hid (show (Instr.entry (.pointer (some ⟨it, 0, none⟩))).run Try.prog w3 = .ok (.tuple #[.int .i64 pk, pv]) w3 from hre)
      have HRN := Lib.hid (show (Instr.next (.pointer (some ⟨it, 0, none⟩)) false 0).run Try.prog w2 = .ok (.tuple #[.bool true, .int .i64 pk, pv]) w3 from hrn)
      have hit3 := hmi.lt.2
      have HI := Lib.hid (show QG w w6 M it L K v2 (C ++ [pk]) (todo.eraseIdx j) from ⟨hmi.chg hcg (fun e => by have := (hol M e).1; have := HN.out; omega) (fun e => hoff e), o6, hpm, bel3.trans (hcg.below bel3.size fun k e => (hol k e).1), HG.out.it0, by
        rcases b6 with e | e
        · rw [e]; exact hoff
        · rw [e]; intro h; injection h with h; simp at h; omega⟩)
      have hjl : j < todo.length := (List.getElem?_eq_some_iff.1 hj).1
      have hel : (todo.eraseIdx j).length + 1 = todo.length := by rw [List.length_eraseIdx, if_pos hjl]; omega
      have HLV := Lib.hid (show lenV v2 = (C ++ [pk]).length by
        rcases o6.2 with ⟨rfl, h0⟩ | ⟨g', cap', cur', rfl, _⟩
        · simp at h0
        · rfl)
      clear hra hre hrn o6 g6 b6 hmi hch hcg hbb own3 hpm hj
      have hre := HRE.out; have hrn := HRN.out
      go_wp2_with (at_builtin; refine wpList_app_run rfl _ _ _ rfl rfl rfl HRA.out ?_)
      go_roundw
      case rel => exact ⟨C ++ [pk], todo.eraseIdx j, HLV.out, by rw [List.length_append, List.length_singleton]; omega, HI⟩
      case measure =>
        have h1 := HLV.out
        rw [List.length_append, List.length_singleton] at h1
        show K.length - lenV v2 < K.length - lenV u3
        omega
end
end Go.Proofs.Ytnckjacbkhoppaa
