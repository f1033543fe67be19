/- Contracts over this seat's translation: the comparison of call.line. -/
import Derived.Test.YtabcfmpmkdoieaaDoorCalStb
import Derived.Test.YtabcfmpmkdoieaaDoorWakSl
namespace Go.Proofs.YtabcfmpmkdoieaaDoor.cal
open Go.RowKit Go.Lib Go.Sort Go.Proofs.YtabcfmpmkdoieaaDoor.ord
open Go.Proofs.YtabcfmpmkdoieaaDoor.wak (Lies SL oL OwnM OwnQ flat)

set_option maxHeartbeats 1000000 in
theorem line1_buy (px py : Int) (G ox oy c : Nat) (W : World) (hc : W.cell? ⟨c, 0, none⟩ = some (.int .i64 1)) (hx : W.cell? ⟨G, ox + 4, none⟩ = some (.int .i64 px)) (hy : W.cell? ⟨G, oy + 4, none⟩ = some (.int .i64 py)) :
    Calls Tryd.prog 40 #[.pointer (some ⟨G, ox, none⟩), .pointer (some ⟨G, oy, none⟩), .pointer (some ⟨c, 0, none⟩)] W fun e w' => e = .returned (.int .i64 (Lib.compareInt py px)) ∧ ∃ q, w' = W.drewN q := by
  have hcon := fun W' => AnyG.cmp_Compare_int Tryd.lcmp py px W'
  change ∀ W', Calls Tryd.prog 41 _ _ _ at hcon
  generalize Lib.compareInt py px = r at hcon ⊢
  go_enter Tryd.func40, Tryd.ntmps40
  go_wp2_with fail
  go_quiet ((go_at_call 41; exact Calls.quiet_of_same (hcon _)))
  go_wp2_with fail
  go_ret
  exact ⟨rfl, _, rfl⟩

set_option maxHeartbeats 1000000 in
theorem line1_sell (px py : Int) (G ox oy c : Nat) (W : World) (hc : W.cell? ⟨c, 0, none⟩ = some (.int .i64 2)) (hx : W.cell? ⟨G, ox + 4, none⟩ = some (.int .i64 px)) (hy : W.cell? ⟨G, oy + 4, none⟩ = some (.int .i64 py)) :
    Calls Tryd.prog 40 #[.pointer (some ⟨G, ox, none⟩), .pointer (some ⟨G, oy, none⟩), .pointer (some ⟨c, 0, none⟩)] W fun e w' => e = .returned (.int .i64 (Lib.compareInt px py)) ∧ ∃ q, w' = W.drewN q := by
  have hcon := fun W' => AnyG.cmp_Compare_int Tryd.lcmp px py W'
  change ∀ W', Calls Tryd.prog 41 _ _ _ at hcon
  generalize Lib.compareInt px py = r at hcon ⊢
  go_enter Tryd.func40, Tryd.ntmps40
  go_wp2_with fail
  go_quiet ((go_at_call 41; exact Calls.quiet_of_same (hcon _)))
  go_wp2_with fail
  go_ret
  exact ⟨rfl, _, rfl⟩

/-- The price of an order of a list, taken by its number. -/
def prOf (zs : List O) (x : Nat) : Int := (zs[x % zs.length]!).price
def keyP (side : Int) (zs : List O) (x : Nat) : Int := if side = 1 then - prOf zs x else prOf zs x
def cfP (side : Int) (zs : List O) (x y : Nat) : Int := if side = 1 then Lib.compareInt (prOf zs y) (prOf zs x) else Lib.compareInt (prOf zs x) (prOf zs y)
/-- Where an order lies. -/
def encP (G o : Nat) (zs : List O) (x : Nat) : Value := .pointer (some ⟨G, o + (x % zs.length) * 8, none⟩)

theorem compare_lt (x y : Int) : Lib.compareInt x y < 0 ↔ x < y := by
  unfold Lib.compareInt
  repeat' split
  all_goals simp_all
  all_goals omega
theorem cfP_lt (side : Int) (zs : List O) (x y : Nat) : cfP side zs x y < 0 ↔ keyP side zs x < keyP side zs y := by
  unfold cfP keyP
  by_cases h : side = 1
  · rw [if_pos h, if_pos h, if_pos h, compare_lt]; omega
  · rw [if_neg h, if_neg h, if_neg h, compare_lt]

theorem sortWorld_other (enc : Nat → Value) (w : World) (blk off m k : Nat) (dk : Array Nat) (os : Array Obj) (hk : k < w.heap.size) (hne : k ≠ blk) : (sortWorld enc w blk off m dk os).heap[k]? = w.heap[k]? := by
  unfold sortWorld
  rw [heap_grow_old _ _ (by simpa [putRow, mapBlock, Sort.ahead] using hk)]
  have : blk ≠ k := fun e => hne e.symm
  simp [putRow, mapBlock, Sort.ahead, Array.getElem?_modify, this]
theorem cell_of_heap {w w' : World} {k : Nat} (h : w'.heap[k]? = w.heap[k]?) (o : Nat) : w'.cell? ⟨k, o, none⟩ = w.cell? ⟨k, o, none⟩ := by
  simp [World.cell?, h]

theorem cmp_lays (side : Int) (hs : side = 1 ∨ side = 2) (G o c blk off size : Nat) (zs : List O) (w : World) (hz : 0 < zs.length) (hG : G < w.heap.size) (hc : c < w.heap.size) (hGb : G ≠ blk) (hcb : c ≠ blk) (hL : Lies w G o zs) (hcell : w.cell? ⟨c, 0, none⟩ = some (.int .i64 side)) :
    CmpLays1 Tryd.prog 40 #[.pointer (some ⟨c, 0, none⟩)] (encP G o zs) (cfP side zs) blk off size w := by
  intro m os dk _ x y
  have hp : ∀ t, (sortWorld (encP G o zs) w blk off m dk os).cell? ⟨G, o + (t % zs.length) * 8 + 4, none⟩ = some (.int .i64 (prOf zs t)) := fun t => by
    rw [cell_of_heap (sortWorld_other _ w blk off m G dk os hG hGb)]
    exact hL (t % zs.length) (Nat.mod_lt _ hz) 4 _ rfl
  have hcc : (sortWorld (encP G o zs) w blk off m dk os).cell? ⟨c, 0, none⟩ = some (.int .i64 side) := by
    rw [cell_of_heap (sortWorld_other _ w blk off m c dk os hc hcb)]
    exact hcell
  generalize sortWorld (encP G o zs) w blk off m dk os = V at hp hcc ⊢
  have hgr : ∀ q, V.drewN q = grow (V.drewN q) #[] := fun q => (grow_empty _).symm
  unfold cfP
  rcases hs with rfl | rfl
  · rw [if_pos rfl]
    exact (line1_buy (prOf zs x) (prOf zs y) G _ _ c V hcc (hp x) (hp y)).mono fun e w' h => ⟨h.1, by obtain ⟨q, hq⟩ := h.2; exact ⟨q, #[], by rw [hq]; exact hgr q⟩⟩
  · rw [if_neg (by decide)]
    exact (line1_sell (prOf zs x) (prOf zs y) G _ _ c V hcc (hp x) (hp y)).mono fun e w' h => ⟨h.1, by obtain ⟨q, hq⟩ := h.2; exact ⟨q, #[], by rw [hq]; exact hgr q⟩⟩
end Go.Proofs.YtabcfmpmkdoieaaDoor.cal
