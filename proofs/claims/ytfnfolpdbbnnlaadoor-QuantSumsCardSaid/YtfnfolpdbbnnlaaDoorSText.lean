/- The texts of fractions and shares, in every world that holds the table of powers of ten; no two valid shares have one text. -/
import Derived.Test.YtfnfolpdbbnnlaaDoorShare4
import Derived.Test.YtfnfolpdbbnnlaaDoorItoa
import Derived.Lib.PathFns
namespace Go.Proofs.YtfnfolpdbbnnlaaDoor
open Go.RowKit
theorem PureOn.app {C : World → Prop} {P : Program} {f : Nat} {args : Array Value} {v : Value} (h : PureOn C P f args v) (w : World) (hw : C w) : Calls P f args w fun e w' => e = .returned v ∧ Below w.heap.size w w' := h w hw
theorem T10.on {W w : World} (h : T10 W) (hb : Below W.heap.size W w) : T10 w := clo_T10 _ _ h hb
def rS (n d : Int) : ByteArray := itoaS n ++ ⟨#[47]⟩ ++ itoaS d
def sS (n d w : Int) : ByteArray := rS n d ++ ⟨#[58]⟩ ++ itoaS w
theorem rtext_any (n d : Int) (h1 : 0 ≤ n) (h2 : 1 ≤ d) (h3 : n ≤ 9223372036854775807) (h4 : d ≤ 9223372036854775807) : PureOn T10 Tryd.prog 16 #[F2 n d] (.string (rS n d)) :=
  rtext_core T10 clo_T10 n d h1 h2 _ _ (by have := (itoaS_size h1 h3).2; omega) (by have := (itoaS_size (show 0 ≤ d by omega) h4).2; omega) (itoaS_ne (by omega) h4) (fmt_any n (by omega) h3) (fmt_any d (by omega) h4)
theorem rS_size {n d : Int} (h1 : 0 ≤ n) (h2 : 1 ≤ d) (h3 : n ≤ 9223372036854775807) (h4 : d ≤ 9223372036854775807) : (rS n d).size ≤ 43 := by
  have k1 := (itoaS_size h1 h3).2
  have k2 := (itoaS_size (show 0 ≤ d by omega) h4).2
  unfold rS
  rw [ByteArray.size_append, ByteArray.size_append]
  show _ + 1 + _ ≤ 43
  omega
theorem stext_any (n d w : Int) (h : SRt n d w) : PureOn T10 Tryd.prog 53 #[S3 n d w] (.string (sS n d w)) := by
  have h' := h
  obtain ⟨h1, h2, ⟨h3, h4⟩, h5, h6⟩ := h
  exact stext_core T10 clo_T10 n d w h' _ _ (by have := rS_size h3 h4 (by omega) (by omega); omega) (by have := (itoaS_size (show 0 ≤ w by omega) (by omega)).2; omega) (rtext_any n d h3 h4 (by omega) (by omega)) (fmt_any w (by omega) (by omega))
theorem rS_list {n d : Int} (h1 : 0 ≤ n) (h2 : 1 ≤ d) : (rS n d).data.toList = Lib.decDigits n.toNat ++ 47 :: Lib.decDigits d.toNat := by
  unfold rS
  simp [ByteArray.data_append, itoaS_list h1, itoaS_list (show 0 ≤ d by omega)]
theorem sS_list {n d w : Int} (h1 : 0 ≤ n) (h2 : 1 ≤ d) (h3 : 1 ≤ w) : (sS n d w).data.toList = Lib.decDigits n.toNat ++ 47 :: (Lib.decDigits d.toNat ++ 58 :: Lib.decDigits w.toNat) := by
  unfold sS
  simp [ByteArray.data_append, rS_list h1 h2, itoaS_list (show 0 ≤ w by omega)]
theorem sS_inj {n d w n' d' w' : Int} (h : SRt n d w) (h' : SRt n' d' w') (e : sS n d w = sS n' d' w') : n = n' ∧ d = d' ∧ w = w' := by
  obtain ⟨_, _, ⟨a1, a2⟩, a3, _⟩ := h
  obtain ⟨_, _, ⟨b1, b2⟩, b3, _⟩ := h'
  have e1 := congrArg (fun s : ByteArray => s.data.toList) e
  simp only [sS_list a1 a2 a3, sS_list b1 b2 b3] at e1
  obtain ⟨e2, e3⟩ := parted (no_sign (by decide)) (no_sign (by decide)) e1
  obtain ⟨e4, e5⟩ := parted (no_sign (by decide)) (no_sign (by decide)) e3
  exact ⟨itoaS_inj a1 b1 e2, itoaS_inj (by omega) (by omega) e4, itoaS_inj (by omega) (by omega) e5⟩
theorem sS_head {n d w : Int} (h : SRt n d w) : (rS n d).size + 2 ≤ (sS n d w).size ∧ (sS n d w).extract 0 (rS n d).size = rS n d ∧ ∀ hk : (rS n d).size < (sS n d w).size, ((sS n d w)[(rS n d).size]'hk).toNat = 58 := by
  obtain ⟨_, _, ⟨a1, a2⟩, a3, _⟩ := h
  have k := (itoaS_size (show 0 ≤ w by omega) (by omega)).1
  refine ⟨?_, ?_, ?_⟩
  · unfold sS
    rw [ByteArray.size_append, ByteArray.size_append]
    show _ ≤ _ + 1 + _
    omega
  · apply Go.WideShapes.bytes_inj
    unfold sS
    rw [Lib.Pa.extract_upto_list]
    simp only [ByteArray.data_append, Array.toList_append, List.append_assoc]
    exact List.take_left' rfl
  · intro hk
    have e : ((sS n d w).data.toList)[(rS n d).size]? = some 58 := by
      unfold sS
      simp only [ByteArray.data_append, Array.toList_append, List.append_assoc]
      rw [List.getElem?_append_right (by exact Nat.le_refl _)]
      have : (rS n d).size - (rS n d).data.toList.length = 0 := Nat.sub_self _
      rw [this]; rfl
    have e2 : (sS n d w)[(rS n d).size]'hk = 58 := by
      have : ((sS n d w).data.toList)[(rS n d).size]? = some ((sS n d w)[(rS n d).size]'hk) := by
        rw [List.getElem?_eq_getElem (show (rS n d).size < (sS n d w).data.toList.length from hk)]; rfl
      rw [e] at this
      exact (Option.some.inj this).symm
    rw [e2]; rfl
end Go.Proofs.YtfnfolpdbbnnlaaDoor
