/-
  BooksPlay: the program's book, the document's and a copy of each, side by side; a book of pages filled from a told list.
-/
import Derived.Test.YtdbdeodcldogmaaMade04
import Derived.Test.YtdbdeodcldogmaaSame04
import Derived.Test.YtdbdeodcldogmaaLives04
import Derived.Test.YtdbdeodcldogmaaPB9
import Derived.Test.YtdbdeodcldogmaaPB10
import Derived.Test.YtdbdeodcldogmaaRef04g
import Derived.Test.YtdbdeodcldogmaaBookO2
namespace Go.Proofs.Ytdbdeodcldogmaa
open Go.RowKit
set_option linter.unusedSimpArgs false
set_option linter.unusedVariables false

/-- The block of this number. -/
def blockNo (n : Nat) : Code → Option Code
  | .block i c => match i == n with
    | true => some (.block i c)
    | false => blockNo n c
  | .seq a b => match blockNo n a with
    | some c => some c
    | none => blockNo n b
  | .cond _ a b => match blockNo n a with
    | some c => some c
    | none => blockNo n b
  | .scope c => blockNo n c
  | .loop c => blockNo n c
  | _ => none
theorem blkNe {w : World} {g h : Nat} {cs ds : Array Value} {t u : TypeId} (a : Blk w g cs t) (b : Blk w h ds u) (hn : t ≠ u) : g ≠ h := by
  rintro rfl
  have e := a.out
  rw [b.out] at e
  simp only [Option.some.injEq, Obj.cells.injEq] at e
  exact hn e.2.1.symm
/-- The program's book (g), the document's (r), the program's copy (c), the document's (d). -/
structure PlayW (w0 w : World) (g r c d : Nat) (lp : List Of) (Np : Int) (vl : Value) (lm : List Of) (Nm : Int) (vm : Value) (lc : List Of) (Nc : Int) (vc vd : Value) : Prop where
  pb : PB w w0.heap.size g lp Np vl
  mb : RefB w w0.heap.size r lm Nm vm
  cb : PB w w0.heap.size c lc Nc vc
  db : RefB w w0.heap.size d lc Nc vd
  apart : ∀ b, Foot c vc b → ¬ Foot g vl b
  ne : d ≠ r
  keep : Below w0.heap.size w0 w
theorem foot_off {w : World} {base g : Nat} {l : List Of} {N : Int} {vl : Value} (h : PB w base g l N vl) {b : Nat} {cs : Array Value} {t : TypeId} (hb : Blk w b cs t) (h1 : 63 ≠ t) (h2 : 75 ≠ t) : ¬ Foot g vl b := by
  rintro (e | e)
  · exact blkNe h.blk hb h1 e.symm
  · exact owns_ne h.row hb h2 b e rfl
theorem foot_row {w : World} {base base2 g : Nat} {l : List Of} {N : Int} {vl v : Value} {n : Nat} {xs : List Value} (h : PB w base g l N vl) (hr : w.ownsRow base2 39 7 v n xs) : ∀ b, v.ownBlock = some b → ¬ Foot g vl b := by
  rintro b hb (e | e)
  · exact owns_ne hr h.blk (by decide) b hb e
  · obtain ⟨_, _, c1, h1⟩ := owns_type hr hb
    obtain ⟨_, _, c2, h2⟩ := owns_type h.row e
    rw [h1] at h2
    simp only [Option.some.injEq, Obj.cells.injEq] at h2
    exact absurd h2.2.1 (by decide)
theorem PlayW.below {w0 w w' : World} {g r c d : Nat} {lp : List Of} {Np : Int} {vl : Value} {lm : List Of} {Nm : Int} {vm : Value} {lc : List Of} {Nc : Int} {vc vd : Value} (h : PlayW w0 w g r c d lp Np vl lm Nm vm lc Nc vc vd) (k : Below w.heap.size w w') : PlayW w0 w' g r c d lp Np vl lm Nm vm lc Nc vc vd :=
  ⟨h.pb.below k, h.mb.below k, h.cb.below k, h.db.below k, h.apart, h.ne, h.keep.trans (k.mono h.keep.size)⟩
theorem PlayW.pmut {w0 w w' : World} {g r c d : Nat} {lp : List Of} {Np : Int} {vl : Value} {lm : List Of} {Nm : Int} {vm : Value} {lc : List Of} {Nc : Int} {vc vd : Value} (h : PlayW w0 w g r c d lp Np vl lm Nm vm lc Nc vc vd) {l' : List Of} {N' : Int} {vl' : Value} (hp : PB w' w0.heap.size g l' N' vl') (k : Keep (Foot g vl) w w') (m : Moved w vl vl') : PlayW w0 w' g r c d l' N' vl' lm Nm vm lc Nc vc vd := by
  refine ⟨hp, h.mb.keep k (foot_off h.pb h.mb.blk (by decide) (by decide)) (foot_row h.pb h.mb.row), h.cb.keep k (h.apart c (.inl rfl)) (fun b hb => h.apart b (.inr hb)), h.db.keep k (foot_off h.pb h.db.blk (by decide) (by decide)) (foot_row h.pb h.db.row), ?_, h.ne, h.keep.trans (k.below h.keep.size (fun b hb hf => by have := (h.pb.lt hf).1; omega))⟩
  rintro b hb (e | e)
  · exact h.apart b hb (.inl e)
  · rcases m b e with q | q
    · exact h.apart b hb (.inr q)
    · have := (h.cb.lt hb).2; omega
theorem PlayW.rmut {w0 w w' : World} {g r c d : Nat} {lp : List Of} {Np : Int} {vl : Value} {lm : List Of} {Nm : Int} {vm : Value} {lc : List Of} {Nc : Int} {vc vd : Value} (h : PlayW w0 w g r c d lp Np vl lm Nm vm lc Nc vc vd) {l' : List Of} {N' : Int} {vm' : Value} (hp : RefB w' w0.heap.size r l' N' vm') (k : Keep (· = r) w w') : PlayW w0 w' g r c d lp Np vl l' N' vm' lc Nc vc vd := by
  refine ⟨h.pb.keep k (blkNe h.pb.blk h.mb.blk (by decide)) (owns_ne h.pb.row h.mb.blk (by decide)), hp, h.cb.keep k (blkNe h.cb.blk h.mb.blk (by decide)) (owns_ne h.cb.row h.mb.blk (by decide)), h.db.keep k h.ne (owns_ne h.db.row h.mb.blk (by decide)), h.apart, h.ne, h.keep.trans (k.below h.keep.size (fun b hb hf => by have := h.mb.ge; omega))⟩
/-- Copies anew. -/
theorem PlayW.copied {w0 w w1 w2 : World} {g r c d c' d' : Nat} {lp : List Of} {Np : Int} {vl vm : Value} {lc : List Of} {Nc : Int} {vc vd vc' vd' : Value} (h : PlayW w0 w g r c d lp Np vl lp Np vm lc Nc vc vd) (k1 : Below w.heap.size w w1) (k2 : Below w1.heap.size w1 w2)
    (h1 : PB w1 w0.heap.size c' lp Np vc') (h2 : w.heap.size ≤ c') (h3 : ∀ b, vc'.ownBlock = some b → w.heap.size ≤ b) (h4 : RefB w2 w0.heap.size d' lp Np vd') (h5 : w1.heap.size ≤ d') : PlayW w0 w2 g r c' d' lp Np vl lp Np vm lp Np vc' vd' := by
  have hh := (h.below k1).below k2
  refine ⟨hh.pb, hh.mb, h1.below k2, h4, ?_, ?_, hh.keep⟩
  · intro b hb hf
    have h6 := (h.pb.lt hf).2
    rcases hb with e | e
    · omega
    · have := h3 b e; omega
  · have := (h.mb.below k1).blk.lt; omega
/-- All blocks lie below base. -/
def UnderW (base g r c d : Nat) (vl vm vc vd : Value) : Prop := (∀ b, Foot g vl b → b < base) ∧ (∀ b, Foot r vm b → b < base) ∧ (∀ b, Foot c vc b → b < base) ∧ ∀ b, Foot d vd b → b < base
theorem RefB.lt {w : World} {base g : Nat} {l : List Of} {N : Int} {vl : Value} (h : RefB w base g l N vl) {b : Nat} (hb : Foot g vl b) : b < w.heap.size := by
  rcases hb with e | e
  · rw [e]; exact h.blk.lt
  · exact (owns_type h.row e).2.1
theorem PlayW.under {w0 w : World} {g r c d : Nat} {lp : List Of} {Np : Int} {vl : Value} {lm : List Of} {Nm : Int} {vm : Value} {lc : List Of} {Nc : Int} {vc vd : Value} (h : PlayW w0 w g r c d lp Np vl lm Nm vm lc Nc vc vd) : UnderW w.heap.size g r c d vl vm vc vd :=
  ⟨fun b hb => (h.pb.lt hb).2, fun b hb => h.mb.lt hb, fun b hb => (h.cb.lt hb).2, fun b hb => h.db.lt hb⟩
theorem PlayW.far {w0 w w' : World} {g r c d base : Nat} {lp : List Of} {Np : Int} {vl : Value} {lm : List Of} {Nm : Int} {vm : Value} {lc : List Of} {Nc : Int} {vc vd : Value} (u : UnderW base g r c d vl vm vc vd) (hb : w0.heap.size ≤ base) (h : PlayW w0 w g r c d lp Np vl lm Nm vm lc Nc vc vd) {S : Nat → Prop} (k : Keep S w w') (hS : ∀ b, S b → base ≤ b) : PlayW w0 w' g r c d lp Np vl lm Nm vm lc Nc vc vd := by
  obtain ⟨u1, u2, u3, u4⟩ := u
  have q : ∀ b, b < base → ¬ S b := fun b h1 h2 => by have := hS b h2; omega
  exact ⟨h.pb.keep k (q _ (u1 _ (.inl rfl))) (fun b e => q _ (u1 _ (.inr e))), h.mb.keep k (q _ (u2 _ (.inl rfl))) (fun b e => q _ (u2 _ (.inr e))), h.cb.keep k (q _ (u3 _ (.inl rfl))) (fun b e => q _ (u3 _ (.inr e))), h.db.keep k (q _ (u4 _ (.inl rfl))) (fun b e => q _ (u4 _ (.inr e))), h.apart, h.ne, h.keep.trans (k.below h.keep.size (fun b hb' => q b (by omega)))⟩
theorem rowed_offer {w : World} {base n : Nat} {v : Value} {xs : List Value} (h : Rowed w base 39 7 v n xs) : ∃ (ao : Option Addr) (c : Nat), v = .slice ao n c ∧ ∀ m q, (∃ cs, (Pg.offer (.slice ao n c) n c m q).Mem w cs) ∧ ∀ b, (Pg.offer (.slice ao n c) n c m q).own b → base ≤ b ∧ b < w.heap.size := by
  obtain ⟨_, ⟨rfl, rfl⟩ | ⟨g, cur, rfl, hb, hg, hm, hc, _⟩⟩ := h
  · exact ⟨none, 0, rfl, fun m q => ⟨⟨#[], by simp [Pg.n, Pg.c], by simp [Pg.c], by simp [Pg.c], .inl ⟨rfl, rfl, rfl⟩⟩, fun b h => by cases h⟩⟩
  · exact ⟨_, n, rfl, fun m q => ⟨⟨cur, Nat.le_refl _, hm, hc, .inr ⟨g, rfl, hg⟩⟩, fun b h => by cases h; exact ⟨hb, lt_of_block hg⟩⟩⟩
/-- While the book of pages is filled: its pages, and the rest (R), all of which lies below base. -/
structure TailO (R : World → Prop) (base g : Nat) (bv : Value) (pgs : List Pg) (w : World) : Prop where
  book : BookIs w base g bv pgs
  mem : ∀ p ∈ pgs, ∃ cs, p.Mem w cs
  apart : Apartly pgs
  low : ∀ p ∈ pgs, ∀ b, p.own b → base ≤ b
  rest : R w
def FarR (base : Nat) (R : World → Prop) : Prop := ∀ (w w' : World) (S : Nat → Prop), R w → Keep S w w' → (∀ b, S b → base ≤ b) → R w'
theorem FarR.below {base : Nat} {R : World → Prop} (f : FarR base R) {w w' : World} (h : R w) (k : Below w.heap.size w w') : R w' := f w w' (fun _ => False) h (Keep.of_below k) (fun _ h => h.elim)
theorem TailO.below {R : World → Prop} {base g : Nat} {bv : Value} {pgs : List Pg} {w w' : World} (f : FarR base R) (h : TailO R base g bv pgs w) (k : Below w.heap.size w w') : TailO R base g bv pgs w' := by
  have kk : Keep (fun _ => False) w w' := Keep.of_below k
  refine ⟨⟨h.book.blk.below k h.book.blk.lt, h.book.ge, owns_below h.book.row k⟩, fun p hp => ?_, h.apart, h.low, f.below h.rest k⟩
  obtain ⟨cs, m⟩ := h.mem p hp
  exact ⟨cs, m.keep kk (fun _ _ => id)⟩
theorem Pg.Mem.off {p : Pg} {w w2 : World} {base g : Nat} {bv : Value} {pgs : List Pg} {cs : Array Value} (m : p.Mem w cs) (hb : BookIs w base g bv pgs) (hk : Keep (fun k => k = g ∨ bv.ownBlock = some k) w w2) : p.Mem w2 cs := by
  refine m.keep hk ?_
  rintro b ho (e | e)
  · obtain ⟨_, cur, hc⟩ := m.own ho
    rw [e] at hc
    have := hb.blk.out
    rw [hc] at this
    simp only [Option.some.injEq, Obj.cells.injEq] at this
    exact (Pg.elem_ne p).2 this.2.1
  · obtain ⟨_, cur, hc⟩ := m.own ho
    obtain ⟨_, _, cur2, hc2⟩ := owns_type hb.row e
    rw [hc2] at hc
    simp only [Option.some.injEq, Obj.cells.injEq] at hc
    exact (Pg.elem_ne p).1 hc.2.1.symm
theorem TailO.add {R : World → Prop} {base g : Nat} {bv : Value} {pgs : List Pg} {p : Pg} {w1 w2 : World} {e : Ending} (f : FarR base R) (h : TailO R base g bv pgs w1) (hm : ∃ cs, p.Mem w1 cs) (hb : ∀ b, p.own b → base ≤ b ∧ ∀ q ∈ pgs, ¬ q.own b) (hp : Paged base g bv pgs p w1 e w2) :
    ∃ bv', TailO R base g bv' (pgs ++ [p]) w2 := by
  obtain ⟨_, bv', hbk, hk⟩ := hp
  refine ⟨bv', hbk, ?_, ?_, ?_, f _ _ _ h.rest hk ?_⟩
  · intro q hq
    rcases List.mem_append.1 hq with hq | hq
    · obtain ⟨cs, m⟩ := h.mem q hq
      exact ⟨cs, m.off h.book hk⟩
    · rw [List.mem_singleton] at hq; subst hq
      obtain ⟨cs, m⟩ := hm
      exact ⟨cs, m.off h.book hk⟩
  · intro i j q q' b hi hj ho ho'
    have key : ∀ (i : Nat) (q : Pg), (pgs ++ [p])[i]? = some q → (i < pgs.length ∧ pgs[i]? = some q) ∨ (i = pgs.length ∧ q = p) := by
      intro i q hi
      by_cases hl : i < pgs.length
      · rw [List.getElem?_append_left hl] at hi; exact .inl ⟨hl, hi⟩
      · rw [List.getElem?_append_right (by omega)] at hi
        have h0 : i - pgs.length = 0 := by
          have := (List.getElem?_eq_some_iff.1 hi).1
          simpa using this
        rw [h0] at hi
        simp at hi
        exact .inr ⟨by omega, hi.symm⟩
    rcases key i q hi with ⟨_, hi'⟩ | ⟨hi', rfl⟩
    · rcases key j q' hj with ⟨_, hj'⟩ | ⟨hj', rfl⟩
      · exact h.apart i j q q' b hi' hj' ho ho'
      · exact absurd ho ((hb b ho').2 q (List.mem_of_getElem? hi'))
    · rcases key j q' hj with ⟨_, hj'⟩ | ⟨hj', rfl⟩
      · exact absurd ho' ((hb b ho).2 q' (List.mem_of_getElem? hj'))
      · omega
  · intro q hq b hb'
    rcases List.mem_append.1 hq with hq | hq
    · exact h.low q hq b hb'
    · rw [List.mem_singleton] at hq; subst hq; exact (hb b hb').1
  · rintro b (e | e)
    · rw [e]; exact h.book.ge
    · exact (owns_type h.book.row e).1
/-- A row that was made behind all that stands is a page of its own. -/
theorem TailO.fresh {R : World → Prop} {base g : Nat} {bv : Value} {pgs : List Pg} {w : World} (h : TailO R base g bv pgs w) {b : Nat} (hb : w.heap.size ≤ b) : base ≤ b ∧ ∀ q ∈ pgs, ¬ q.own b := by
  refine ⟨by have := h.book.ge; have := h.book.blk.lt; omega, fun q hq ho => ?_⟩
  obtain ⟨cs, m⟩ := h.mem q hq
  have := (m.own ho).1
  omega
theorem TailO.start {R : World → Prop} {base : Nat} {w : World} (f : FarR base R) (h : R w) (hb : base ≤ w.heap.size) : TailO R base w.heap.size (.slice none 0 0) [] (w.alloc (.cells #[.slice none 0 0] 55)) := by
  have bw := (Below.refl w.heap.size w).alloc (Nat.le_refl _) (.cells #[.slice none 0 0] 55)
  exact ⟨⟨Blk.new _ _ _, hb, World.ownsRow_nil _ _ _ _⟩, by simp, fun i j p q b h => by simp at h, by simp, f.below h bw⟩
theorem TailO.done {R : World → Prop} {base g : Nat} {bv : Value} {pgs : List Pg} {w w' : World} (f : FarR base R) (h : TailO R base g bv pgs w) (k : Keep (Pg.any pgs) w w') : R w' := f _ _ _ h.rest k (by rintro b ⟨q, hq, ho⟩; exact h.low q hq b ho)
def PlayAt (w : World) (g r len : Nat) (cv dv i : Value) (wr : World) : Prop :=
  ∃ (k : Nat) (l : List Of) (N : Int) (vl vm : Value) (c d : Nat) (lc : List Of) (Nc : Int) (vc vd : Value), k ≤ len ∧ i = .int .i64 k ∧ cv = .pointer (some ⟨c, 0, none⟩) ∧ dv = .pointer (some ⟨d, 0, none⟩) ∧ PlayW w wr g r c d l N vl l N vm lc Nc vc vd ∧ BInv l N ∧ BInv lc Nc
/-- Behind the act, ahead of what is asked. -/
def MidAt (w : World) (g r X O : Nat) (x : Ab) (cv dv : Value) (wr : World) : Prop :=
  ∃ (l : List Of) (N : Int) (vl vm : Value) (c d : Nat) (lc : List Of) (Nc : Int) (vc vd : Value), cv = .pointer (some ⟨c, 0, none⟩) ∧ dv = .pointer (some ⟨d, 0, none⟩) ∧ PlayW w wr g r c d l N vl l N vm lc Nc vc vd ∧ BInv l N ∧ BInv lc Nc ∧
    Blk wr O #[.int .u64 x.o.se, .int .u8 x.o.ow, .int .u8 x.o.sl, .int .u8 x.o.bu, .int .i64 x.o.lf, .int .i64 x.o.nu, .int .i64 x.o.de] 39
theorem PB.down {w : World} {base base' g : Nat} {l : List Of} {N : Int} {vl : Value} (h : PB w base g l N vl) (hb : base' ≤ base) : PB w base' g l N vl := ⟨h.blk, Nat.le_trans hb h.ge, owns_base h.row hb⟩
theorem RefB.down {w : World} {base base' g : Nat} {l : List Of} {N : Int} {vl : Value} (h : RefB w base g l N vl) (hb : base' ≤ base) : RefB w base' g l N vl := ⟨h.blk, Nat.le_trans hb h.ge, owns_base h.row hb⟩
theorem reads_nil (w : World) : Reads w (.slice none 0 0) 7 ([] : List Of).length (ofCells []) := ⟨none, 0, rfl, by simp, rfl, fun h => absurd h (by simp)⟩
theorem pof_new {w : World} {n : Int} (h0 : 0 < n) (h1 : n ≤ 18446744073709551615) :
    Calls Try.prog 12 #[.slice none 0 0, .int .u64 n] w fun e w' => ∃ g vl, e = .returned (.tuple #[.pointer (some ⟨g, 0, none⟩), .int .i64 0]) ∧ PB w' w.heap.size g [] n vl ∧ Below w.heap.size w w' := by
  refine (pofB_any (reads_nil w) (by simp) (by omega) h1).mono ?_
  rintro e w' ⟨hb, ⟨_, _, _, g, vl, he, hp⟩ | ⟨_, h⟩ | ⟨_, _, h⟩⟩
  · exact ⟨g, vl, he, hp, hb⟩
  · simp at h
  · exact absurd ⟨okO.nil n, by omega⟩ h
theorem bof_new {w : World} {n : Int} (h0 : 0 < n) (h1 : n ≤ 18446744073709551615) :
    Calls Try.prog 13 #[.slice none 0 0, .int .u64 n] w fun e w' => ∃ g vl, e = .returned (.tuple #[.pointer (some ⟨g, 0, none⟩), .int .i64 0]) ∧ RefB w' w.heap.size g [] n vl ∧ Below w.heap.size w w' := by
  have C := bof_any (w := w) (ao := none) (cap := 0) (l := []) (nx := n) (reads_nil w) (fun _ => rfl) (by simp)
  refine C.mono ?_
  rintro e w' ⟨hb, ⟨_, _, _, g, vl, he, hp⟩ | ⟨_, h⟩ | ⟨_, _, h⟩⟩
  · exact ⟨g, vl, he, hp, hb⟩
  · simp at h
  · exact absurd ⟨okO.nil n, by omega⟩ h
theorem foundV_is (o : Option Of) : ∃ (y : Of) (s : Bool), foundV o = .tuple #[.agg #[.int .u64 y.se, .int .u8 y.ow, .int .u8 y.sl, .int .u8 y.bu, .int .i64 y.lf, .int .i64 y.nu, .int .i64 y.de], .bool s] := by
  cases o with
  | none => exact ⟨⟨0, 0, 0, 0, 0, 0, 0⟩, false, by kernel_rfl⟩
  | some x => exact ⟨x, true, rfl⟩
/-- Both Takes, in whichever order: the program's is operation 5, the document's operation 11. -/
structure Both4 (w0 : World) (g r c d X O : Nat) (xs os : Array Value) (l L : List Of) (N : Int) (lc : List Of) (Nc : Int) (vc vd : Value) (D : Nat → Bool) (w : World) : Prop where
  play : ∃ vl vm, PlayW w0 w g r c d (cond (D 5) L l) N vl (cond (D 11) L l) N vm lc Nc vc vd
  x : Blk w X xs 41
  o : Blk w O os 39
def BothT4 (w0 : World) (g r c d O : Nat) (os : Array Value) (L : List Of) (N : Int) (lc : List Of) (Nc : Int) (vc vd : Value) (w : World) : Prop := (∃ vl vm, PlayW w0 w g r c d L N vl L N vm lc Nc vc vd) ∧ Blk w O os 39
theorem Both4.start {w0 W : World} {g r c d X O : Nat} {xs os : Array Value} {l L : List Of} {N : Int} {vl vm : Value} {lc : List Of} {Nc : Int} {vc vd : Value} (h : PlayW w0 W g r c d l N vl l N vm lc Nc vc vd) (hX : Blk W X xs 41) (hO : Blk W O os 39) :
    Both4 w0 g r c d X O xs os l L N lc Nc vc vd (fun _ => false) W.drew := by
  have bb : Below W.heap.size W W.drew := (Below.refl _ _).drew
  exact ⟨⟨vl, vm, h.below bb⟩, hX.below bb hX.lt, hO.below bb hO.lt⟩
theorem Both4.step {w0 w : World} {g r c d X O : Nat} {xs os : Array Value} {l L : List Of} {N : Int} {lc : List Of} {Nc : Int} {vc vd : Value} {D : Nat → Bool} (h : Both4 w0 g r c d X O xs os l L N lc Nc vc vd D w) {k : Nat} (h1 : k ≠ 5) (h2 : k ≠ 11) : Both4 w0 g r c d X O xs os l L N lc Nc vc vd (ins k D) w := by
  have e1 : ins k D 5 = D 5 := by simp [ins, Ne.symm h1]
  have e2 : ins k D 11 = D 11 := by simp [ins, Ne.symm h2]
  exact ⟨by rw [e1, e2]; exact h.play, h.x, h.o⟩
theorem Both4.one {w0 w w' : World} {g r c d X O : Nat} {xs os : Array Value} {l L lp lm : List Of} {N : Int} {vl vm : Value} {lc : List Of} {Nc : Int} {vc vd : Value} {D : Nat → Bool} (h : Both4 w0 g r c d X O xs os l L N lc Nc vc vd D w) (hp : PlayW w0 w g r c d lp N vl lm N vm lc Nc vc vd) (hm : lm = cond (D 11) L l) {vl' : Value} (hl : PB w' w0.heap.size g L N vl') (k : Keep (Foot g vl) w w') (m : Moved w vl vl') : Both4 w0 g r c d X O xs os l L N lc Nc vc vd (ins 5 D) w' := by
  have e1 : ins 5 D 5 = true := by simp [ins]
  have e2 : ins 5 D 11 = D 11 := by simp [ins]
  refine ⟨⟨vl', vm, ?_⟩, h.x.keep k (foot_off hp.pb h.x (by decide) (by decide)), h.o.keep k (foot_off hp.pb h.o (by decide) (by decide))⟩
  rw [e1, e2, ← hm]
  exact hp.pmut hl k m
theorem Both4.two {w0 w w' : World} {g r c d X O : Nat} {xs os : Array Value} {l L lp lm : List Of} {N : Int} {vl vm : Value} {lc : List Of} {Nc : Int} {vc vd : Value} {D : Nat → Bool} (h : Both4 w0 g r c d X O xs os l L N lc Nc vc vd D w) (hp : PlayW w0 w g r c d lp N vl lm N vm lc Nc vc vd) (hm : lp = cond (D 5) L l) {vm' : Value} (hl : RefB w' w0.heap.size r L N vm') (k : Keep (· = r) w w') : Both4 w0 g r c d X O xs os l L N lc Nc vc vd (ins 11 D) w' := by
  have e1 : ins 11 D 5 = D 5 := by simp [ins]
  have e2 : ins 11 D 11 = true := by simp [ins]
  refine ⟨⟨vl, vm', ?_⟩, h.x.keep k (blkNe h.x hp.mb.blk (by decide)), h.o.keep k (blkNe h.o hp.mb.blk (by decide))⟩
  rw [e1, e2, ← hm]
  exact hp.rmut hl k
theorem Both4.done {w0 w : World} {g r c d X O : Nat} {xs os : Array Value} {l L : List Of} {N : Int} {lc : List Of} {Nc : Int} {vc vd : Value} {D : Nat → Bool} (h : Both4 w0 g r c d X O xs os l L N lc Nc vc vd D w) (h1 : D 5 = true) (h2 : D 11 = true) : BothT4 w0 g r c d O os L N lc Nc vc vd w := by
  have a := h.play; rw [h1, h2] at a
  exact ⟨a, h.o⟩

end Go.Proofs.Ytdbdeodcldogmaa
