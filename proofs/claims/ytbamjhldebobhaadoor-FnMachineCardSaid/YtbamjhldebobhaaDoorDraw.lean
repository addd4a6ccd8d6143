/- The laws' source of choices: contracts of l00Source, byte, next, RuneDrawn, and of the laws' own 'at' and 'mix'. A code has at most 2^20 + 1 bytes. -/
import Derived.Test.YtbamjhldebobhaaDoorInts
import Derived.IntWalk
import Derived.Deep.RegionHeld3
import Derived.StillTailTactics
namespace Go.Proofs.YtbamjhldebobhaaDoor
open Go.RowKit

/-- A source in block b over a slice of bytes: it has been asked at most m times. -/
def Src (w : World) (b : Nat) (zs : List Int) (m : Nat) : Prop :=
  ∃ (cv : Value) (k : Nat) (seed : Int), w.heap[b]? = some (.cells #[cv, .int .i64 k, .int .i64 seed] 69) ∧ Ints .u8 w cv zs ∧ k ≤ m ∧ 0 ≤ seed ∧ seed < 2147483648 ∧
    (∀ z ∈ zs, 0 ≤ z ∧ z ≤ 255) ∧ zs.length ≤ 1048600 ∧ (∀ bb off c, 0 < zs.length → cv = .slice (some ⟨bb, off, none⟩) zs.length c → bb < b)

theorem Ints.form {k : IntKind} {w : World} {v : Value} {zs : List Int} (h : Ints k w v zs) : ∃ a c, v = .slice a zs.length c := by
  rcases h with ⟨rfl, a, c, rfl⟩ | ⟨b, off, c, rfl, _⟩
  · exact ⟨_, _, rfl⟩
  · exact ⟨_, _, rfl⟩
/-- A store into another block leaves what the slice reads. -/
theorem Ints.store {k : IntKind} {w : World} {v : Value} {zs : List Int} (h : Ints k w v zs) (b j : Nat) (u : Value) (hne : ∀ bb off c, 0 < zs.length → v = .slice (some ⟨bb, off, none⟩) zs.length c → bb ≠ b) : Ints k (w.setCell ⟨b, j, none⟩ u) v zs := by
  rcases h with h | ⟨bb, off, c, rfl, hc⟩
  · exact .inl h
  · refine .inr ⟨bb, off, c, rfl, fun i hi => ?_⟩
    have := hne bb off c (by omega) rfl
    rw [World.cell?_of_block (w := w) (a := ⟨bb, off + i, none⟩) (Below.heap_setCell w ⟨b, j, none⟩ u bb this)]
    exact hc i hi
theorem Ints.drewN {k : IntKind} {w : World} {v : Value} {zs : List Int} (h : Ints k w v zs) (q : Nat) : Ints k (w.drewN q) v zs := h.keep (below_drewN (Below.refl _ _) q)

/-- Of what stood in w only block b may have turned. -/
def Only (b : Nat) (w w' : World) : Prop := Below b w w' ∧ ∀ g, g ≠ b → g < w.heap.size → w'.heap[g]? = w.heap[g]?
theorem Only.refl (b : Nat) (w : World) : Only b w w := ⟨Below.refl _ _, fun _ _ _ => rfl⟩
theorem Only.trans {b : Nat} {w w1 w2 : World} (h : Only b w w1) (k : Only b w1 w2) : Only b w w2 :=
  ⟨h.1.trans k.1, fun g hg hl => by rw [k.2 g hg (Nat.lt_of_lt_of_le hl h.1.size), h.2 g hg hl]⟩
theorem Only.drewN {b : Nat} {w w1 : World} (h : Only b w w1) (q : Nat) : Only b w (w1.drewN q) := ⟨below_drewN h.1 q, h.2⟩
theorem Only.set (b j : Nat) (w : World) (u : Value) : Only b w (w.setCell ⟨b, j, none⟩ u) :=
  ⟨(Below.refl b w).setCell (p := ⟨b, j, none⟩) (Nat.le_refl _) u, fun g hg _ => Below.heap_setCell w ⟨b, j, none⟩ u g hg⟩
theorem Only.alloc {b : Nat} {w w1 : World} (h : Only b w w1) (hb : b < w.heap.size) (o : Obj) : Only b w (w1.alloc o) :=
  ⟨h.1.alloc (by have := h.1.size; omega) o, fun g hg hl => by rw [Below.heap_alloc w1 o g (Nat.lt_of_lt_of_le hl h.1.size), h.2 g hg hl]⟩

/-- What a source holds: the slice, the count and the seed, written out. -/
def SrcAt (w : World) (b : Nat) (zs : List Int) (cv : Value) (k : Nat) (seed : Int) : Prop :=
  w.heap[b]? = some (.cells #[cv, .int .i64 k, .int .i64 seed] 69) ∧ Ints .u8 w cv zs
theorem SrcAt.cells {w : World} {b : Nat} {zs : List Int} {cv : Value} {k : Nat} {seed : Int} (h : SrcAt w b zs cv k seed) :
    w.cell? ⟨b, 0, none⟩ = some cv ∧ w.cell? ⟨b, 1, none⟩ = some (.int .i64 k) ∧ w.cell? ⟨b, 2, none⟩ = some (.int .i64 seed) ∧ w.frozen? ⟨b, 1, none⟩ = false ∧ w.frozen? ⟨b, 2, none⟩ = false ∧ b < w.heap.size :=
  ⟨by rw [cell_of_row w b 0 _ _ _ h.1]; rfl, by rw [cell_of_row w b 1 _ _ _ h.1]; rfl, by rw [cell_of_row w b 2 _ _ _ h.1]; rfl, frozen_of_row w b 1 _ _ h.1, frozen_of_row w b 2 _ _ h.1, (Array.getElem?_eq_some_iff.1 h.1).1⟩
theorem SrcAt.count {w : World} {b : Nat} {zs : List Int} {cv : Value} {k : Nat} {seed : Int} (h : SrcAt w b zs cv k seed) (hne : ∀ bb off c, 0 < zs.length → cv = .slice (some ⟨bb, off, none⟩) zs.length c → bb ≠ b) :
    SrcAt (w.setCell ⟨b, 1, none⟩ (.int .i64 ((k : Int) + 1))) b zs cv (k + 1) seed ∧ Only b w (w.setCell ⟨b, 1, none⟩ (.int .i64 ((k : Int) + 1))) :=
  ⟨⟨heap_setCell_same w b 1 _ _ _ h.1, h.2.store b 1 _ hne⟩, Only.set b 1 w _⟩
theorem SrcAt.seed {w : World} {b : Nat} {zs : List Int} {cv : Value} {k : Nat} {seed : Int} (h : SrcAt w b zs cv k seed) (hne : ∀ bb off c, 0 < zs.length → cv = .slice (some ⟨bb, off, none⟩) zs.length c → bb ≠ b) (n : Int) :
    SrcAt (w.setCell ⟨b, 2, none⟩ (.int .i64 n)) b zs cv k n ∧ Only b w (w.setCell ⟨b, 2, none⟩ (.int .i64 n)) :=
  ⟨⟨heap_setCell_same w b 2 _ _ _ h.1, h.2.store b 2 _ hne⟩, Only.set b 2 w _⟩
theorem SrcAt.drewN {w : World} {b : Nat} {zs : List Int} {cv : Value} {k : Nat} {seed : Int} (h : SrcAt w b zs cv k seed) (q : Nat) : SrcAt (w.drewN q) b zs cv k seed := ⟨h.1, h.2.drewN q⟩

theorem SrcAt.src {w : World} {b : Nat} {zs : List Int} {cv : Value} {k : Nat} {seed : Int} (h : SrcAt w b zs cv k seed) {m : Nat} (hk : k ≤ m) (s0 : 0 ≤ seed) (s1 : seed < 2147483648) (hz : ∀ z ∈ zs, 0 ≤ z ∧ z ≤ 255) (hl : zs.length ≤ 1048600) (hne : ∀ bb off c, 0 < zs.length → cv = .slice (some ⟨bb, off, none⟩) zs.length c → bb < b) : Src w b zs m :=
  ⟨cv, k, seed, h.1, h.2, hk, s0, s1, hz, hl, hne⟩

/-- The library's law of a region with a forced tail, the world behind the draw under a name. -/
theorem still_tail_w {P : Program} {id : Nat} {Q : Exit → Act → World → Prop} {a : Act} {w : World} {l : List Oper} (n : Nat) (w2 : World) (hw : { w with drawn := w.drawn + 1 } = w2) (hm : P.follows .mixedOrders = true) (hB : Region.lexTailB .any l.toArray n = true)
    (h : wpStill P l.toArray w2 (fun a' => wpList P l.toArray Q (l.drop n) a' w2) (l.take n) a) : (Code.region id l.toArray true).wp P Q a w := by
  subst hw; exact wp_region_still_tail n hm hB h

/-- What 'byte' leaves. -/
def ByteDone (w : World) (b : Nat) (zs : List Int) (m : Nat) (e : Ending) (w' : World) : Prop := (∃ r : Int, e = .returned (.int .i64 r) ∧ 0 ≤ r ∧ r ≤ 255) ∧ Src w' b zs (m + 1) ∧ Only b w w'

set_option maxHeartbeats 1000000 in
set_option maxRecDepth 100000 in
theorem src_byte (b : Nat) (zs : List Int) (m : Nat) (w : World) (h : Src w b zs m) (hm : m ≤ 1099511627776) :
    Calls Tryd.prog 68 #[.pointer (some ⟨b, 0, none⟩)] w (ByteDone w b zs m) := by
  obtain ⟨cv, k, seed, hb, hI, hk, s0, s1, hz, hl, hbef⟩ := h
  have hne := fun bb off c h0 hv => Nat.ne_of_lt (hbef bb off c h0 hv)
  have HBF := Lib.hid hbef
  have hA : SrcAt w b zs cv k seed := ⟨hb, hI⟩
  obtain ⟨c0, c1, c2, f1, f2, hbl⟩ := hA.cells
  obtain ⟨hA1, B1⟩ := hA.count hne
  have HA := Lib.hid hA1
  have HB := Lib.hid B1
  have HNE := Lib.hid hne
  have HZ := Lib.hid hz
  obtain ⟨av, cc, rfl⟩ := hI.form
  clear hb hI hA hA1 B1 hne hz hbef
  by_cases hin : k + 1 ≤ zs.length
  · obtain ⟨bb, off, rfl, hcell⟩ : ∃ bb off, av = some ⟨bb, off, none⟩ ∧ ∀ W, Ints .u8 W (.slice av zs.length cc) zs → W.cell? ⟨bb, off + k, none⟩ = some (.int .u8 (zs.getD k 0)) := by
      rcases HA.out.2 with ⟨h0, _⟩ | ⟨bb, off, c, hv, _⟩
      · rw [h0] at hin; simp at hin
      · injection hv with h1 h2 h3
        refine ⟨bb, off, h1, fun W hW => ?_⟩
        subst h1
        rcases hW with ⟨h0, _⟩ | ⟨bb', off', c', hv', hc'⟩
        · rw [h0] at hin; simp at hin
        · injection hv' with h1' h2' h3'
          injection h1' with h1'
          injection h1' with e1 e2 e3
          subst e1; subst e2
          exact hc' k (by omega)
    have HC := Lib.hid hcell
    have hx : 0 ≤ zs.getD k 0 ∧ zs.getD k 0 ≤ 255 := HZ.out _ (by simp [List.getD, List.getElem?_eq_getElem (show k < zs.length by omega)])
    have hin1 : (k : Int) + 1 ≤ (zs.length : Int) := by omega
    clear hcell
    generalize hX : zs.getD k 0 = x at *
    have hkk : (k : Int) < (zs.length : Int) := by omega
    go_enter Tryd.func68, Tryd.ntmps68
    go_wp2
    clear c0 c1 c2 f1 f2 hX
    generalize w.setCell ⟨b, 1, none⟩ (.int .i64 ((k : Int) + 1)) = W1 at *
    obtain ⟨c0, c1, c2, f1, f2, hbl1⟩ := HA.out.cells
    have c1' : W1.cell? ⟨b, 1, none⟩ = some (.int .i64 ((k : Int) + 1)) := c1
    have cx := HC.out W1 HA.out.2
    clear c1
    go_quiet (fail)
    go_wp2
    have e0 : IntKind.i64.wrap (k : Int) = (k : Int) := IntWalk.i64_in _ (by omega)
    have k0 : (0 : Int) ≤ (k : Int) := by omega
    have e1 : IntKind.i64.wrap (seed * 31) = seed * 31 := IntWalk.i64_in _ (by omega)
    have e2 : IntKind.i64.wrap (seed * 31 + x) = seed * 31 + x := IntWalk.i64_in _ (by omega)
    have e3 : IntKind.i64.wrap (seed * 31 + x + 7) = seed * 31 + x + 7 := IntWalk.i64_in _ (by omega)
    have e4 : (seed * 31 + x + 7).tmod 2147483648 = (seed * 31 + x + 7) % 2147483648 := Int.tmod_eq_emod_of_nonneg (by omega)
    have e5 : IntKind.i64.wrap x = x := IntWalk.i64_in _ (by omega)
    have HD := Lib.hid (HB.out.drewN (nq + 1))
    have HE := Lib.hid (HA.out.drewN (nq + 1))
    clear c0 c1' c2 f1 f2 cx
    refine still_tail_w 23 (W1.drewN (nq + 1)) rfl (by kernel_rfl) (by kernel_rfl) ?_
    generalize W1.drewN (nq + 1) = W2 at *
    obtain ⟨c0, c1, c2, f1, f2, hbl2⟩ := HE.out.cells
    have c1' : W2.cell? ⟨b, 1, none⟩ = some (.int .i64 ((k : Int) + 1)) := c1
    have cx := HC.out W2 HE.out.2
    clear c1
    simp only [List.take_succ_cons, List.take_zero, List.drop_succ_cons, List.drop_zero]
    repeat still_step
    refine wpStill_nil ?_
    go_wp2
    obtain ⟨q1, q2⟩ := HE.out.seed HNE.out ((seed * 31 + x + 7) % 2147483648)
    have HF := Lib.hid q1
    have HG := Lib.hid (HD.out.trans q2)
    clear c0 c1' c2 f1 f2 cx q1 q2 e1 e2 e3 e4
    have s2 : 0 ≤ (seed * 31 + x + 7) % 2147483648 := by omega
    have s3 : (seed * 31 + x + 7) % 2147483648 < 2147483648 := by omega
    generalize (seed * 31 + x + 7) % 2147483648 = seed2 at *
    generalize W2.setCell ⟨b, 2, none⟩ (.int .i64 seed2) = W3 at *
    obtain ⟨c0, c1, c2, f1, f2, hbl3⟩ := HF.out.cells
    have c1' : W3.cell? ⟨b, 1, none⟩ = some (.int .i64 ((k : Int) + 1)) := c1
    have cx := HC.out W3 HF.out.2
    clear c1
    go_quiet (fail)
    go_wp2
    go_ret
    exact ⟨⟨_, rfl, by omega, by omega⟩, (HF.out.drewN _).src (by omega) s2 s3 HZ.out hl HBF.out, HG.out.drewN _⟩
  · have hin' : (zs.length : Int) < (k : Int) + 1 := by omega
    go_enter Tryd.func68, Tryd.ntmps68
    go_wp2
    clear c0 c1 c2 f1 f2
    generalize w.setCell ⟨b, 1, none⟩ (.int .i64 ((k : Int) + 1)) = W1 at *
    obtain ⟨c0, c1, c2, f1, f2, hbl1⟩ := HA.out.cells
    have c1' : W1.cell? ⟨b, 1, none⟩ = some (.int .i64 ((k : Int) + 1)) := c1
    clear c1
    go_quiet (fail)
    go_wp2
    · go_ret
      exact ⟨⟨0, rfl, by omega, by omega⟩, (HA.out.drewN nq).src (by omega) s0 s1 HZ.out hl HBF.out, HB.out.drewN nq⟩
    · go_ret
      have ⟨q1, q2⟩ := (HA.out.drewN nq).seed HNE.out ((seed * 1103515245 + 12345) % 2147483648)
      exact ⟨⟨_, rfl, by omega, by omega⟩, q1.src (by omega) (by omega) (by omega) HZ.out hl HBF.out, (HB.out.drewN nq).trans q2⟩

end Go.Proofs.YtbamjhldebobhaaDoor
