/- Contracts over this seat's translation: package wire's behind and fields. -/
import Derived.Test.YtndkabnmffgebaaDoorWirByt
namespace Go.Proofs.YtndkabnmffgebaaDoor.wir
open Go.RowKit

/-- Fields as cells: where each stands in a command's block, and its size. -/
def fC (cb : Nat) (f : Nat × Nat) : List Value := [.pointer (some ⟨cb, f.1, none⟩), .int .i64 (f.2 : Int)]
def fCs (cb : Nat) (fs : List (Nat × Nat)) : List Value := fs.flatMap (fC cb)
theorem fCs_append (cb : Nat) (a b : List (Nat × Nat)) : fCs cb (a ++ b) = fCs cb a ++ fCs cb b := by simp [fCs]
/-- Fields of the call's own. -/
abbrev OwnF (B : Nat) (w : World) (v : Value) (cb : Nat) (fs : List (Nat × Nat)) : Prop := w.ownsRow B 59 2 v fs.length (fCs cb fs)
theorem infoF : ∃ i, Tryd.prog.info? 59 = some i ∧ i.zero = some (.agg #[.pointer none, .int .i64 0]) ∧ i.size = 2 ∧ i.bytes = 16 := by
  have h : ((Tryd.prog.info? 59).map (fun i => (i.zero, i.size, i.bytes))) = some (some (.agg #[.pointer none, .int .i64 0]), 2, 16) := by kernel_rfl
  obtain ⟨i, hi, he⟩ := Option.map_eq_some_iff.1 h
  simp only [Prod.mk.injEq] at he
  exact ⟨i, hi, he.1, he.2.1, he.2.2⟩
theorem fCs_at (cb : Nat) : ∀ (fs : List (Nat × Nat)) (k : Nat), k < fs.length → (fCs cb fs)[k * 2]? = some (.pointer (some ⟨cb, (fs[k]!).1, none⟩)) ∧ (fCs cb fs)[k * 2 + 1]? = some (.int .i64 ((fs[k]!).2 : Int))
  | [], k, h => by simp at h
  | f :: r, 0, h => ⟨rfl, rfl⟩
  | f :: r, k + 1, h => by
    have := fCs_at cb r k (by simpa using h)
    rw [show (k + 1) * 2 = k * 2 + 2 by omega, show k * 2 + 2 + 1 = k * 2 + 1 + 2 by omega]
    simpa [fCs, fC] using this
theorem own_fld {w : World} {B cb : Nat} {q : Option Addr} {c : Nat} {fs : List (Nat × Nat)} (h : OwnF B w (.slice q fs.length c) cb fs) {k : Nat} (hk : k < fs.length) :
    ∃ g, q = some ⟨g, 0, none⟩ ∧ B ≤ g ∧ g < w.heap.size ∧ w.cell? ⟨g, k * 2, none⟩ = some (.pointer (some ⟨cb, (fs[k]!).1, none⟩)) ∧ w.cell? ⟨g, k * 2 + 1, none⟩ = some (.int .i64 ((fs[k]!).2 : Int)) := by
  have h' := h
  rcases h.2 with ⟨h1, h2⟩ | ⟨g, cap, cur, hv, h1, h2, h3, h4, h5, h6⟩
  · omega
  · cases hv
    have e := fCs_at cb fs k hk
    exact ⟨g, rfl, h1, (Array.getElem?_eq_some_iff.1 h2).1, (World.ownsRow.cellAt h' _ (by omega)).trans e.1, (World.ownsRow.cellAt h' _ (by omega)).trans e.2⟩
theorem OwnF.stays {w w' : World} {B cb : Nat} {v : Value} {fs : List (Nat × Nat)} (h : OwnF B w v cb fs) (hk : Lib.OthersKept 5 none w w') : OwnF B w' v cb fs := by
  refine ⟨h.1, ?_⟩
  rcases h.2 with hn | ⟨g, cap, cur, rfl, hb, hgg, rest⟩
  · exact .inl hn
  · exact .inr ⟨g, cap, cur, rfl, hb, hk g _ hgg (by simp) (by intro c fz hc; cases hc), rest⟩
theorem cells2 {w : World} {e : TypeId} {u x : Value} : ∀ j y, [u, x][j]? = some y → (w.alloc (.cells #[u, x] e)).cell? ((⟨w.heap.size, 0, none⟩ : Addr).add j) = some y := by
  intro j y hy
  have hnew := heap_alloc_new w (.cells #[u, x] e)
  have ha : (Addr.add ⟨w.heap.size, 0, none⟩ j) = ⟨w.heap.size, j, none⟩ := by simp [Addr.add_lit]
  rw [ha]
  simp only [World.cell?, hnew]
  rcases j with _ | _ | j
  · exact hy
  · exact hy
  · simp at hy

set_option maxRecDepth 100000 in
set_option maxHeartbeats 400000 in
/-- behind: a field, and others in two bytes each. -/
theorem behind_any (cb o1 s1 g0 : Nat) (os : List Nat) (w : World) (hg0 : g0 < w.heap.size) (hn : os.length ≤ 100)
    (hc : ∀ j, j < os.length → w.cell? ⟨g0, j, none⟩ = some (.pointer (some ⟨cb, os[j]!, none⟩))) :
    Calls Tryd.prog 39 #[.agg #[.pointer (some ⟨cb, o1, none⟩), .int .i64 s1], .slice (some ⟨g0, 0, none⟩) os.length os.length] w
      fun e w' => ∃ v', e = .returned v' ∧ OwnF w.heap.size w' v' cb ((o1, s1) :: os.map (fun o => (o, 2))) ∧ Below w.heap.size w w' := by
  obtain ⟨i0, hi, hz0, hz1, hz2⟩ := infoF
  have HI := hidW (And.intro hi (And.intro hz0 (And.intro hz1 hz2)))
  clear hi hz0 hz1 hz2
  obtain ⟨n, hn0⟩ : ∃ n, n = os.length := ⟨_, rfl⟩
  have HN := hidW (And.intro hn0 hn)
  have HC := hidW (And.intro hc hg0)
  rw [← hn0]
  clear hn hc hg0 hn0
  obtain ⟨X, hX⟩ : ∃ X, X = w.heap.size := ⟨_, rfl⟩
  obtain ⟨V, hV⟩ : ∃ V, V = (w.alloc (.cells #[.pointer (some ⟨cb, o1, none⟩), .int .i64 s1] 59)).alloc (.cells #[.pointer (some ⟨cb, o1, none⟩), .int .i64 s1] 59) := ⟨_, rfl⟩
  have HV : Hid (Below X w V ∧ X + 2 ≤ V.heap.size ∧ OwnF X V (.slice (some ⟨X + 1, 0, none⟩) 1 1) cb [(o1, s1)]) := by
    subst hV hX
    refine ⟨((Below.refl _ _).alloc (Nat.le_refl _) _).alloc (by simp) _, by simp, ?_⟩
    have := World.ownsRow_lit (base := w.heap.size) (e := 59) (size := 2) (w.alloc (.cells #[.pointer (some ⟨cb, o1, none⟩), .int .i64 s1] 59)) #[.pointer (some ⟨cb, o1, none⟩), .int .i64 s1] 1 (by simp) (by unfold maxLen; omega) rfl
    rw [World.size_alloc] at this
    exact this
  have HX := hidW hX
  rw [← hX]
  go_enter Tryd.func39, Tryd.ntmps39
  go_upto_region 2 with fail
  simp only [← hX, ← hV]
  clear hX hV
  go_wp2_with fail
  go_loopg [5, 7, 12] n (fun gg s5 s7 s12 wx => ∃ k : Nat, k ≤ n ∧ n - k ≤ gg ∧ s12 = .int .i64 k ∧ Aside (OwnF X wx s5 cb ((o1, s1) :: (os.take k).map (fun o => (o, 2))) ∧ Below X w wx ∧ X ≤ wx.heap.size))
  case atStart => exact ⟨0, Nat.zero_le _, by omega, rfl, HV.out.2.2, HV.out.1, by have := HV.out.2.1; omega⟩
  case round =>
    obtain ⟨k, hk, hg, rfl, HA⟩ := hrel
    have HA2 := hidW HA.out
    clear HA
    by_cases hlt : k < n
    · have hltz : (k : Int) < (n : Int) := by omega
      have hin1 : ¬ ((k : Int) < 0) := by omega
      have hlz : k < os.length := by rw [← HN.out.1]; exact hlt
      have hcell : wr.cell? ⟨g0, k, none⟩ = some (.pointer (some ⟨cb, os[k]!, none⟩)) := (HA2.out.2.1.cell (p := ⟨g0, k, none⟩) (by rw [HX.out]; exact HC.out.2)).trans (HC.out.1 k hlz)
      have hwk : wrap64 ((k : Int) + 1) = ((k + 1 : Nat) : Int) := by have := HN.out.2; have := HN.out.1; unfold wrap64; omega
      have HK := hidW (And.intro hwk (And.intro hlt hg))
      have htk : (os.take (k + 1)).map (fun o => (o, 2)) = (os.take k).map (fun o => (o, 2)) ++ [(os[k]!, 2)] := by rw [List.take_succ_eq_append_getElem hlz, List.map_append, getW _ _ hlz]; rfl
      have HT := hidW htk
      have hlen : ((o1, s1) :: (os.take k).map (fun o => (o, 2))).length = k + 1 := by simp; omega
      have HLN := hidW hlen
      obtain ⟨q, c, hq⟩ := own_form HA2.out.1
      rw [hlen] at hq
      subst hq
      generalize hD : os[k]! = D at *
      clear hwk htk hlen hD hg hk
      go_wp2_with (at_builtin; refine wpList_append_own _ rfl _ _ 54 rfl X 59 i0 (.agg #[.pointer none, .int .i64 0]) 2 16 (by kernel_rfl) HI.out.1 HI.out.2.1 HI.out.2.2.1 HI.out.2.2.2 rfl (by decide) _ _ _ rfl (HA2.out.1.alloc _) ⟨wr.heap.size, 0, none⟩ 1 1 [.pointer (some ⟨cb, D, none⟩), .int .i64 2] rfl rfl cells2 (fun u hu => by simp at hu; rcases hu with rfl | rfl <;> rfl) (by have := HK.out.2.1; have := HN.out; rw [HLN.out]; unfold maxLen; omega) (by have := HK.out.2.1; have := HN.out; rw [HLN.out]; omega) (by rw [World.size_alloc]; have := HA2.out.2.2; omega) ?_; intro v' w2 hown' hgr _)
      have HO2 : Hid (OwnF X w2 v' cb ((o1, s1) :: (os.take (k + 1)).map (fun o => (o, 2)))) := by
        show w2.ownsRow X 59 2 v' ((o1, s1) :: (os.take (k + 1)).map (fun o => (o, 2))).length (fCs cb ((o1, s1) :: (os.take (k + 1)).map (fun o => (o, 2))))
        rw [HT.out, ← List.cons_append, fCs_append, List.length_append]
        exact hown'
      have HF : Hid (Below X w w2 ∧ X ≤ w2.heap.size) := by
        obtain ⟨f1, f2, f4⟩ := HA2.out
        have hgs := hgr.size
        rw [World.size_alloc] at hgs
        exact ⟨(f2.alloc f4 _).grown hgr (by rw [World.size_alloc]; omega) (fun k hk => (f1.lt k hk).1), by omega⟩
      clear hown' hgr hcell
      go_wp2_with fail
      go_roundg (n - (k + 1))
      case measure => have := HK.out; omega
      case rel => exact ⟨k + 1, HK.out.2.1, Nat.le_refl _, by first | exact congrArg (Value.int .i64) HK.out.1 | go_num, HO2.out, HF.out.1, HF.out.2⟩
    · obtain rfl : k = n := by omega
      have hltz : ¬ (k : Int) < (k : Int) := by omega
      have ht : os.take k = os := List.take_of_length_le (by rw [← HN.out.1]; exact Nat.le_refl _)
      rw [ht] at HA2
      clear hk hg ht
      go_wp2_with fail
      go_ret
      exact ⟨_, rfl, HA2.out.1, HA2.out.2.1⟩
end Go.Proofs.YtndkabnmffgebaaDoor.wir
