/- Queues of events, plainly, and what an object's blocks hold. -/
import Derived.Test.YtnckjacbkhoppaaEv0
import Derived.Test.YtnckjacbkhoppaaOwnO
import Derived.Test.YtnckjacbkhoppaaKey
import Derived.Test.YtnckjacbkhoppaaSrtM
import Derived.Test.YtnckjacbkhoppaaVecCp
namespace Go.Proofs.Ytnckjacbkhoppaa
open Go.RowKit Go.Maps
open Go.ChangeMaps (setBlock)
structure Qr where
  frame : Int
  v : Value
  l : List Ev
  lost : Int
abbrev qval (r : Qr) : Value := .agg #[r.v, .int .i64 r.lost]
abbrev qzero : Value := .agg #[.slice none 0 0, .int .i64 0]
/-- A queue, plainly. -/
structure Pq where
  frame : Int
  evs : List Pe
  lost : Int
def Qr.pl (r : Qr) : Pq := ⟨r.frame, r.l.map Ev.pl, r.lost⟩
def ltR (a b : Qr) : Bool := decide (a.frame < b.frame)
def ltP (a b : Pq) : Bool := decide (a.frame < b.frame)
theorem ordR : Srt.Ord Qr.frame ltR where
  irr := fun a => by simp [ltR]
  trans := fun a b c h k => by simp only [ltR, decide_eq_true_eq] at *; omega
  tot := fun a b h k => by simp only [ltR, decide_eq_true_eq, decide_eq_false_iff_not] at *; omega
theorem ordP : Srt.Ord Pq.frame ltP where
  irr := fun a => by simp [ltP]
  trans := fun a b c h k => by simp only [ltP, decide_eq_true_eq] at *; omega
  tot := fun a b h k => by simp only [ltP, decide_eq_true_eq, decide_eq_false_iff_not] at *; omega
abbrev fndR (S : List Qr) (k : Int) : Option Qr := Srt.fnd Qr.frame S k
abbrev putR (S : List Qr) (x : Qr) : List Qr := Srt.put Qr.frame ltR S x
abbrev delR (S : List Qr) (k : Int) : List Qr := Srt.del Qr.frame S k
abbrev fndP (S : List Pq) (k : Int) : Option Pq := Srt.fnd Pq.frame S k
abbrev putP (S : List Pq) (x : Pq) : List Pq := Srt.put Pq.frame ltP S x
abbrev delP (S : List Pq) (k : Int) : List Pq := Srt.del Pq.frame S k
theorem pl_put (S : List Qr) (x : Qr) : (putR S x).map Qr.pl = putP (S.map Qr.pl) x.pl := Srt.map_put (key := Qr.frame) (lt := ltR) (key' := Pq.frame) (lt' := ltP) (f := Qr.pl) (fun _ => rfl) (fun _ _ => rfl) S x
theorem pl_del (S : List Qr) (k : Int) : (delR S k).map Qr.pl = delP (S.map Qr.pl) k := Srt.map_del (key := Qr.frame) (key' := Pq.frame) (f := Qr.pl) (fun _ => rfl) S k
theorem pl_fndR (S : List Qr) (k : Int) : fndP (S.map Qr.pl) k = (fndR S k).map Qr.pl := Srt.map_fnd (key := Qr.frame) (key' := Pq.frame) (f := Qr.pl) (fun _ => rfl) S k
/-- What the acts do, plainly. -/
def openM (T : List Pq) (k : Int) : List Pq := match fndP T k with | some _ => T | none => putP T ⟨k, [], 0⟩
def put1 (most : Int) (T : List Pq) (e : Pe) : List Pq :=
  match fndP T e.2.1 with
  | none => T
  | some x => putP T (if (x.evs.length : Int) = most then ⟨e.2.1, x.evs.drop 1 ++ [e], x.lost + 1⟩ else ⟨e.2.1, x.evs ++ [e], x.lost⟩)
def cnt1 (T : List Pq) (e : Pe) : Nat := if (fndP T e.2.1).isSome then 1 else 0
def putM (most : Int) (T : List Pq) (l : List Pe) : List Pq := l.foldl (put1 most) T
def takeM (T : List Pq) (k n : Int) : List Pq :=
  match fndP T k with
  | none => T
  | some x => if n < 1 then T else putP T ⟨k, x.evs.drop n.toNat, x.lost⟩
def gotM (T : List Pq) (k n : Int) : List Pe := match fndP T k with | none => [] | some x => x.evs.take n.toNat
/-- Block qp is an object of the queues S; M: its map's block. -/
structure QB (w : World) (B qp M : Nat) (most : Int) (N : Nat) (S : List Qr) (L : List (Int × Value)) : Prop where
  obj : w.heap[qp]? = some (.cells #[.int .i64 most, .map (some M)] 137 (0, 0))
  map : MapK K64 w M L
  look : ∀ k, L.lookup k = (fndR S k).map qval
  len : L.length = S.length
  srt : Srt.In Qr.frame ltR S
  own : ∀ r ∈ S, OwnO 5 evenc w B r.v r.l
  vec : ∀ r ∈ S, ∀ e ∈ r.l, OwnP w B e.vv e.ps
  hM : qp ≠ M ∧ B ≤ qp ∧ B ≤ M
  qs : ∀ r ∈ S, ∀ b, r.v.ownBlock = some b → b ≠ qp ∧ b ≠ M ∧ (∀ s ∈ S, s.frame ≠ r.frame → s.v.ownBlock ≠ some b) ∧ ∀ s ∈ S, ∀ e ∈ s.l, e.vv.ownBlock ≠ some b
  vs : ∀ r ∈ S, ∀ e ∈ r.l, ∀ b, e.vv.ownBlock = some b → b ≠ qp ∧ b ≠ M
  num : ∀ r ∈ S, I64 r.frame ∧ 0 ≤ r.lost ∧ r.lost + r.l.length ≤ N
/-- The blocks that acts write to, and those that they leave. -/
def FQ (M : Nat) (S : List Qr) (k : Nat) : Prop := k = M ∨ ∃ r ∈ S, r.v.ownBlock = some k
def FV (qp : Nat) (S : List Qr) (k : Nat) : Prop := k = qp ∨ ∃ r ∈ S, ∃ e ∈ r.l, e.vv.ownBlock = some k
section
variable {w w' : World} {B qp M : Nat} {most : Int} {N : Nat} {S : List Qr} {L : List (Int × Value)}
theorem QB.lt (h : QB w B qp M most N S L) : qp < w.heap.size ∧ M < w.heap.size := ⟨(Array.getElem?_eq_some_iff.1 h.obj).1, h.map.lt⟩
theorem QB.fq (h : QB w B qp M most N S L) {k : Nat} (hk : FQ M S k) : B ≤ k ∧ k < w.heap.size := by
  rcases hk with rfl | ⟨r, hr, hb⟩
  · exact ⟨h.hM.2.2, h.lt.2⟩
  · exact (h.own r hr).lt k hb
theorem QB.fv (h : QB w B qp M most N S L) {k : Nat} (hk : FV qp S k) : B ≤ k ∧ k < w.heap.size ∧ ¬ FQ M S k := by
  rcases hk with rfl | ⟨r, hr, e, he, hb⟩
  · refine ⟨h.hM.2.1, h.lt.1, ?_⟩
    rintro (e | ⟨s, hs, e⟩)
    · exact h.hM.1 e
    · exact (h.qs s hs _ e).1 rfl
  · have := (h.vec r hr e he).lt k hb
    refine ⟨this.1, this.2, ?_⟩
    rintro (e' | ⟨s, hs, e'⟩)
    · exact (h.vs r hr e he k hb).2 e'
    · exact (h.qs s hs _ e').2.2.2 r hr e he hb
theorem QB.chg {G : Nat → Prop} (h : QB w B qp M most N S L) (hc : Chg G w w') (h1 : ∀ k, FQ M S k → ¬ G k) (h2 : ∀ k, FV qp S k → ¬ G k) : QB w' B qp M most N S L :=
  ⟨by rw [hc.block qp h.lt.1 (h2 _ (.inl rfl))]; exact h.obj, h.map.chg hc (h1 _ (.inl rfl)), h.look, h.len, h.srt, fun r hr => (h.own r hr).chg hc fun b hb => h1 _ (.inr ⟨r, hr, hb⟩),
    fun r hr e he => ownsRow_chg (h.vec r hr e he) hc fun b hb => h2 _ (.inr ⟨r, hr, e, he, hb⟩), h.hM, h.qs, h.vs, h.num⟩
theorem QB.below (h : QB w B qp M most N S L) (hb : Below w.heap.size w w') : QB w' B qp M most N S L := h.chg (G := fun _ => False) (.of_below _ hb) (fun _ _ => id) fun _ _ => id
theorem QB.c0 (h : QB w B qp M most N S L) : w.cell? ⟨qp, 0, none⟩ = some (.int .i64 most) := by simp [World.cell?, h.obj]
theorem QB.c1 (h : QB w B qp M most N S L) : w.cell? ⟨qp, 1, none⟩ = some (.map (some M)) := by simp [World.cell?, h.obj]
theorem QB.find (h : QB w B qp M most N S L) {k : Int} (hk : I64 k) (c : Bool) : (Instr.lookup 135 (.map (some M)) (.int .i64 k) c).run Try.prog w =
    .ok (if c then .tuple #[((fndR S k).map qval).getD qzero, .bool (fndR S k).isSome] else ((fndR S k).map qval).getD qzero) w := by
  have hz : (zeroValue 172).run Try.prog w = .ok qzero w := Try.zeroValue172 w
  have := h.map.look key64 Try.underlying135 hz (x := k) hk c
  rw [h.look, show (((fndR S k).map qval).isSome) = (fndR S k).isSome by simp] at this
  exact this
/-- The blocks of an act on one queue. -/
def GQ (M : Nat) (S : List Qr) (f : Int) (k : Nat) : Prop := k = M ∨ ∃ y, fndR S f = some y ∧ y.v.ownBlock = some k
theorem GQ.fq {f : Int} {k : Nat} (h : GQ M S f k) : FQ M S k := by
  rcases h with h | ⟨y, hy, hb⟩
  · exact .inl h
  · exact .inr ⟨y, (Srt.fnd_mem hy).1, hb⟩
/-- One queue put in. -/
theorem QB.put (h : QB w B qp M most N S L) {N' : Nat} {x : Qr} (hi : I64 x.frame) (hc : Chg (GQ M S x.frame) w w') (hm : MapK K64 w' M (mput L x.frame (qval x))) (ho : OwnO 5 evenc w' B x.v x.l) (hv : ∀ e ∈ x.l, OwnP w' B e.vv e.ps)
    (hb : ∀ b, x.v.ownBlock = some b → (∃ y, fndR S x.frame = some y ∧ y.v.ownBlock = some b) ∨ w.heap.size ≤ b)
    (he : ∀ e ∈ x.l, (∃ y, fndR S x.frame = some y ∧ e ∈ y.l) ∨ ∀ c, e.vv.ownBlock = some c → w.heap.size ≤ c ∧ x.v.ownBlock ≠ some c)
    (hn : 0 ≤ x.lost ∧ x.lost + x.l.length ≤ N') (hN : N ≤ N') : QB w' B qp M most N' (putR S x) (mput L x.frame (qval x)) := by
  have hlt := h.lt
  have old : ∀ r ∈ S, r.frame ≠ x.frame → ∀ b, r.v.ownBlock = some b → ¬ GQ M S x.frame b ∧ x.v.ownBlock ≠ some b ∧ ∀ e ∈ x.l, e.vv.ownBlock ≠ some b := fun r hr hf b hrb => by
    have q := h.qs r hr b hrb
    have l := (h.own r hr).lt b hrb
    have g : ¬ GQ M S x.frame b := by
      rintro (e | ⟨y, hy, e⟩)
      · exact q.2.1 e
      · have hym := Srt.fnd_mem hy
        exact q.2.2.1 y hym.1 (by rw [hym.2]; exact Ne.symm hf) e
    refine ⟨g, fun e => ?_, fun z hz e => ?_⟩
    · rcases hb b e with h' | h'
      · exact g (.inr h')
      · omega
    · rcases he z hz with ⟨y, hy, hzy⟩ | h'
      · exact q.2.2.2 y (Srt.fnd_mem hy).1 z hzy e
      · have := (h' b e).1; omega
  have oldv : ∀ r ∈ S, ∀ e ∈ r.l, ∀ b, e.vv.ownBlock = some b → ¬ GQ M S x.frame b ∧ x.v.ownBlock ≠ some b := fun r hr e he b hb' => by
    have hf := h.fv (k := b) (.inr ⟨r, hr, e, he, hb'⟩)
    refine ⟨fun g => hf.2.2 g.fq, fun e' => ?_⟩
    rcases hb b e' with ⟨y, hy, h'⟩ | h'
    · exact hf.2.2 (.inr ⟨y, (Srt.fnd_mem hy).1, h'⟩)
    · omega
  have newb : ∀ b, x.v.ownBlock = some b → b ≠ qp ∧ b ≠ M := fun b hxb => by
    rcases hb b hxb with ⟨y, hy, h'⟩ | h'
    · have := h.qs y (Srt.fnd_mem hy).1 b h'; exact ⟨this.1, this.2.1⟩
    · omega
  have newv : ∀ e ∈ x.l, ∀ b, e.vv.ownBlock = some b → b ≠ qp ∧ b ≠ M ∧ x.v.ownBlock ≠ some b := fun e hx b heb => by
    rcases he e hx with ⟨y, hy, h'⟩ | h'
    · have := h.vs y (Srt.fnd_mem hy).1 e h' b heb; exact ⟨this.1, this.2, (oldv y (Srt.fnd_mem hy).1 e h' b heb).2⟩
    · have := h' b heb; exact ⟨by omega, by omega, this.2⟩
  have gqp : ¬ GQ M S x.frame qp := fun g => (h.fv (.inl rfl)).2.2 g.fq
  refine ⟨by rw [hc.block qp hlt.1 gqp]; exact h.obj, hm, fun k => ?_, ?_, h.srt.put ordR x, fun r hr => ?_, fun r hr e hre => ?_, h.hM, fun r hr b hrb => ?_, fun r hr e hre b heb => ?_, fun r hr => ?_⟩
  · rw [look_mput, h.look, show fndR (putR S x) k = _ from Srt.fnd_put S x k]
    by_cases hk : k = x.frame
    · rw [if_pos hk, if_pos hk.symm]; rfl
    · rw [if_neg hk, if_neg fun e => hk e.symm]
  · rw [mput_length, h.look]
    cases hy : fndR S x.frame with
    | some y => rw [show ((some y).map qval).isSome = true from rfl, if_pos rfl, h.len]; exact (Srt.put_len_old h.srt hy).symm
    | none => rw [show ((none : Option Qr).map qval).isSome = false from rfl, if_neg (by simp), h.len]; exact (Srt.put_len_new hy).symm
  · rcases Srt.mem_put.1 hr with rfl | ⟨hr, hf⟩
    · exact ho
    · exact (h.own r hr).chg hc fun b hb' => (old r hr hf b hb').1
  · rcases Srt.mem_put.1 hr with rfl | ⟨hr, hf⟩
    · exact hv e hre
    · exact ownsRow_chg (h.vec r hr e hre) hc fun b hb' => (oldv r hr e hre b hb').1
  · rcases Srt.mem_put.1 hr with rfl | ⟨hr, hf⟩
    · refine ⟨(newb b hrb).1, (newb b hrb).2, fun s hs hsf hsb => ?_, fun s hs e hse heb => ?_⟩
      · rcases Srt.mem_put.1 hs with rfl | ⟨hs, hf⟩
        · exact hsf rfl
        · exact (old s hs hf b hsb).2.1 hrb
      · rcases Srt.mem_put.1 hs with rfl | ⟨hs, hf⟩
        · exact (newv e hse b heb).2.2 hrb
        · exact (oldv s hs e hse b heb).2 hrb
    · have q := h.qs r hr b hrb
      refine ⟨q.1, q.2.1, fun s hs hsf hsb => ?_, fun s hs e hse heb => ?_⟩
      · rcases Srt.mem_put.1 hs with hsx | ⟨hs, _⟩
        · rw [hsx] at hsb; exact (old r hr hf b hrb).2.1 hsb
        · exact q.2.2.1 s hs hsf hsb
      · rcases Srt.mem_put.1 hs with hsx | ⟨hs, _⟩
        · rw [hsx] at hse; exact (old r hr hf b hrb).2.2 e hse heb
        · exact q.2.2.2 s hs e hse heb
  · rcases Srt.mem_put.1 hr with rfl | ⟨hr, hf⟩
    · exact ⟨(newv e hre b heb).1, (newv e hre b heb).2.1⟩
    · exact h.vs r hr e hre b heb
  · rcases Srt.mem_put.1 hr with rfl | ⟨hr, hf⟩
    · exact ⟨hi, hn⟩
    · have := h.num r hr; exact ⟨this.1, this.2.1, by omega⟩
/-- One queue taken out. -/
theorem QB.drop (h : QB w B qp M most N S L) {k : Int} {y : Qr} (hy : fndR S k = some y) (hc : Chg (fun b => b = M) w w') (hm : MapK K64 w' M (mdel L k)) (hl : (mdel L k).length + 1 = L.length) : QB w' B qp M most N (delR S k) (mdel L k) := by
  have mem : ∀ r, r ∈ delR S k → r ∈ S := fun r hr => (Srt.mem_del.1 hr).1
  refine ⟨by rw [hc.block qp h.lt.1 h.hM.1]; exact h.obj, hm, fun k' => ?_, ?_, h.srt.del k, fun r hr => (h.own r (mem r hr)).chg hc fun b hb => (h.qs r (mem r hr) b hb).2.1, fun r hr e he => ownsRow_chg (h.vec r (mem r hr) e he) hc fun b hb => (h.vs r (mem r hr) e he b hb).2, h.hM,
    fun r hr b hb => ?_, fun r hr => h.vs r (mem r hr), fun r hr => h.num r (mem r hr)⟩
  · rw [look_mdel, h.look, show fndR (delR S k) k' = _ from Srt.fnd_del S k k']
    split <;> rfl
  · have := Srt.del_len h.srt hy
    have := h.len
    unfold delR
    omega
  · have q := h.qs r (mem r hr) b hb
    exact ⟨q.1, q.2.1, fun s hs => q.2.2.1 s (mem s hs), fun s hs => q.2.2.2 s (mem s hs)⟩
/-- Block qp is an object of the queues T, which writes to blocks of F alone, and leans on those of V. -/
def QT (w : World) (B qp M : Nat) (most : Int) (N : Nat) (T : List Pq) (F V : Nat → Prop) : Prop :=
  ∃ S L, QB w B qp M most N S L ∧ S.map Qr.pl = T ∧ (∀ k, FQ M S k → F k) ∧ (∀ k, FV qp S k → V k) ∧ (∀ k, F k → B ≤ k ∧ k < w.heap.size ∧ ¬ V k) ∧ ∀ k, V k → B ≤ k ∧ k < w.heap.size
end
end Go.Proofs.Ytnckjacbkhoppaa
