/- The laws' own 'mix': a byte ahead of some bytes. -/
import Derived.Test.YtdckjhobikfggaaDoorDraw
import Derived.Laws.AppendOwn
namespace Go.Proofs.YtdckjhobikfggaaDoor
open Go.RowKit

def MixDone (w : World) (zs : List Int) (e : Ending) (w' : World) : Prop := ∃ v, e = .returned v ∧ Own .u8 5 w' w.heap.size v zs ∧ Below w.heap.size w w'

theorem Own.one (w : World) (x : Int) : Own .u8 5 (w.alloc (.cells #[.int .u8 x] 5)) w.heap.size (.slice (some ⟨w.heap.size, 0, none⟩) 1 1) [x] :=
  Own.lit .u8 5 w w.heap.size [x] (Nat.le_refl _) (by simp [maxLen])

theorem app_u8w (w : World) {ops : Array Oper} {rest : List Oper} {o : Oper} {a : Act} {Q : Exit → Act → World → Prop} (hg : o.guard = none) (s x : Operand)
    (hop : o.op = Op.call { callee := Callee.builtin Builtin.append, args := #[s, x], argTypes := #[22, 22] }) (B : Nat) (v : Value) (zs : List Int) (hs : a.eval s = v) (hown : Own .u8 5 w B v zs)
    (ad : Addr) (m c : Nat) (news : List Int) (hx : a.eval x = .slice (some ad) m c) (hm : news.length = m)
    (hc : ∀ j u, (news.map (Value.int .u8))[j]? = some u → w.cell? (ad.add j) = some u) (hb : zs.length + m ≤ 70368744177664) (hB : B ≤ w.heap.size)
    (K : ∀ v' w', Own .u8 5 w' B v' (zs ++ news) → w.grownBy w' v.ownBlock → wpList Tryd.prog ops Q rest (a.put o.dst v') w') : wpList Tryd.prog ops Q (o :: rest) a w := by
  obtain ⟨i, h1, h2, h3, h4⟩ := info_u8
  refine wpList_append_own w hg s x 22 hop B 5 i (.int .u8 0) 1 1 Tryd.underlying22 h1 h2 h3 h4 rfl (by decide) v _ _ hs hown ad m c (news.map (Value.int .u8)) hx (by simp [hm]) hc ?_ (by unfold maxLen; omega) (by omega) hB ?_
  · intro u hu
    simp only [List.mem_map] at hu
    obtain ⟨n, _, rfl⟩ := hu
    rfl
  · intro v' w' h' hg' _
    have hl : zs.length + m = (zs ++ news).length := by simp [hm]
    rw [hl] at h'
    exact K v' w' (by unfold Own; rw [List.map_append]; exact h') hg'

set_option maxHeartbeats 1000000 in
theorem laws_mix (i : Nat) (v : Value) (zs : List Int) (w : World) (h : Ints .u8 w v zs) (hnone : ∀ n c, v = .slice none n c → c = 0) (hi : i ≤ 255) (hl : zs.length ≤ 1048576) :
    Calls Tryd.prog 10 #[.int .i64 i, v] w (MixDone w ((i : Int) :: zs)) := by
  have HI := Lib.hid h
  have HO := Lib.hid (Own.one w i)
  have e1 : IntKind.u8.wrap (i : Int) = (i : Int) := IntWalk.u8_in _ (by omega)
  rcases h with ⟨rfl, a, c, rfl⟩ | ⟨b, off, c, rfl, hc⟩
  · cases a with
    | none =>
      cases hnone _ _ rfl
      go_enter Tryd.func10, Tryd.ntmps10
      go_wp2
      go_ret
      exact ⟨_, rfl, HO.out, (Below.refl _ _).alloc (Nat.le_refl _) _⟩
    | some ad =>
      go_enter Tryd.func10, Tryd.ntmps10
      go_wp2_with (at_builtin; refine app_u8w _ rfl _ _ rfl w.heap.size _ _ rfl HO.out ad 0 c [] rfl rfl (by intro j u hu; simp at hu) (by simp) (by simp) ?_)
      intro v' w' o' g'
      go_wp2
      go_ret
      exact ⟨_, rfl, o', ((Below.refl _ _).alloc (Nat.le_refl _) _).grown g' (by simp) (fun k hk => by cases hk; exact Nat.le_refl _)⟩
  · have hcell : ∀ j u, (zs.map (Value.int .u8))[j]? = some u → (w.alloc (.cells #[.int .u8 (i : Int)] 5)).cell? ((⟨b, off, none⟩ : Addr).add j) = some u := by
      intro j u hu
      rw [List.getElem?_map] at hu
      have hj : j < zs.length := by
        rcases Nat.lt_or_ge j zs.length with hj | hj
        · exact hj
        · rw [List.getElem?_eq_none hj] at hu; simp at hu
      rw [List.getElem?_eq_getElem hj] at hu
      simp at hu
      have h2 := hc j hj
      rw [add_off, ((Below.refl w.heap.size w).alloc (Nat.le_refl _) _).cell (World.block_lt_of_cell? w _ h2), h2, ← hu]
      simp [List.getD, List.getElem?_eq_getElem hj]
    have HC := Lib.hid hcell
    clear hcell hc
    go_enter Tryd.func10, Tryd.ntmps10
    go_wp2_with (at_builtin; refine app_u8w _ rfl _ _ rfl w.heap.size _ _ rfl HO.out ⟨b, off, none⟩ zs.length c zs rfl rfl HC.out (by simp; omega) (by simp) ?_)
    intro v' w' o' g'
    go_wp2
    go_ret
    exact ⟨_, rfl, o', ((Below.refl _ _).alloc (Nat.le_refl _) _).grown g' (by simp) (fun k hk => by cases hk; exact Nat.le_refl _)⟩

end Go.Proofs.YtdckjhobikfggaaDoor
