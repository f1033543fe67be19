/- Contracts over this seat's translation: the document's Show at a book that is right. -/
import Derived.Test.YtmgodofnhjmbfaaGreatDoorQueSame
import Derived.Test.YtmgodofnhjmbfaaGreatDoorBokRef1
namespace Go.Proofs.YtmgodofnhjmbfaaGreatDoor.bld
open Go.RowKit Go.Proofs.YtmgodofnhjmbfaaGreatDoor.spn Go.Proofs.YtmgodofnhjmbfaaGreatDoor.que Go.Proofs.YtmgodofnhjmbfaaGreatDoor.sid Go.Proofs.YtmgodofnhjmbfaaGreatDoor.bok

theorem hidS {p : Prop} (h : p) : Hid p := h
theorem wrapSuccS (k n : Nat) (h : k < n) (hn : n ≤ 9223372036854775807) : wrap64 ((k : Int) + 1) = ((k + 1 : Nat) : Int) := by unfold wrap64; omega
theorem txt_three (a c b : List UInt8) : ((⟨a.toArray⟩ : ByteArray) ++ ⟨b.toArray⟩ ++ ⟨c.toArray⟩) = ⟨(a ++ b ++ c).toArray⟩ := by
  rw [← app_str, ← app_str]
theorem txt_five (o x y : List UInt8) : ((⟨o.toArray⟩ : ByteArray) ++ ⟨#[32]⟩ ++ ⟨x.toArray⟩ ++ ⟨#[58]⟩ ++ ⟨y.toArray⟩) = ⟨(o ++ [32] ++ x ++ [58] ++ y).toArray⟩ := by
  rw [← app_str, ← app_str, ← app_str, ← app_str]
theorem txt_six (o x y z : List UInt8) : ((⟨o.toArray⟩ : ByteArray) ++ ⟨#[32]⟩ ++ ⟨x.toArray⟩ ++ ⟨#[58]⟩ ++ ⟨y.toArray⟩ ++ ⟨#[43]⟩ ++ ⟨z.toArray⟩) = ⟨(o ++ [32] ++ x ++ [58] ++ y ++ [43] ++ z).toArray⟩ := by
  rw [← app_str, ← app_str, ← app_str, ← app_str, ← app_str, ← app_str]


set_option maxRecDepth 100000 in
set_option maxHeartbeats 40000000 in
theorem rshow_any (q1 q2 : Option Addr) (n1 n2 c1 c2 : Nat) (bs ss : List L) (w : World) (h1 : LS w (.slice q1 n1 c1) bs) (h2 : LS w (.slice q2 n2 c2) ss) (hl1 : ∀ l ∈ bs, lchk l = 0) (hl2 : ∀ l ∈ ss, lchk l = 0) (hc1 : cnt bs ≤ 60) (hc2 : cnt ss ≤ 60) :
    Calls Tryz.prog 8 #[.agg #[.slice q1 n1 c1, .slice q2 n2 c2]] w fun e w' => e = .returned (.string ⟨(sTxt wBuy bs ++ sTxt wSell ss).toArray⟩) ∧ Below w.heap.size w w' := by
  have hne1 : ∀ l ∈ bs, l.rests ≠ [] := fun l h => (lchk_zero (hl1 l h)).2.1
  have hne2 : ∀ l ∈ ss, l.rests ≠ [] := fun l h => (lchk_zero (hl2 l h)).2.1
  have HN1 : Hid (n1 = bs.length) := ls_len h1
  have HN2 : Hid (n2 = ss.length) := ls_len h2
  have hn1 : n1 ≤ 60 := by have := len_le hne1; have := HN1.out; omega
  have hn2 : n2 ≤ 60 := by have := len_le hne2; have := HN2.out; omega
  have HAT1 : Hid (∀ kk, kk < bs.length → _) := fun kk hk => ls_at h1 hne1 hk
  have HAT2 : Hid (∀ kk, kk < ss.length → _) := fun kk hk => ls_at h2 hne2 hk
  have HGD1 : Hid (∀ kk, kk < bs.length → lchk bs[kk]! = 0) := fun kk hk => hl1 _ (by rw [getE _ _ hk]; exact List.getElem_mem hk)
  have HGD2 : Hid (∀ kk, kk < ss.length → lchk ss[kk]! = 0) := fun kk hk => hl2 _ (by rw [getE _ _ hk]; exact List.getElem_mem hk)
  have hS1 : ∀ kk, (sTxt wBuy (bs.take kk)).length ≤ 66000 := fun kk => by
    have h2 := sTxt_len (wd := wBuy) (by decide) (ls := bs.take kk) (fun l h => hl1 l (List.mem_of_mem_take h))
    have h3 : (bs.take kk).length ≤ 60 := by rw [List.length_take]; have := HN1.out; omega
    have h4 := Nat.mul_le_mul_right 1100 h3
    omega
  have hS2 : ∀ kk, (sTxt wSell (ss.take kk)).length ≤ 66000 := fun kk => by
    have h2 := sTxt_len (wd := wSell) (by decide) (ls := ss.take kk) (fun l h => hl2 l (List.mem_of_mem_take h))
    have h3 : (ss.take kk).length ≤ 60 := by rw [List.length_take]; have := HN2.out; omega
    have h4 := Nat.mul_le_mul_right 1100 h3
    omega
  have HLN1 : Hid (∀ kk, ([] ++ sTxt wBuy (bs.take kk)).length ≤ 140000) := fun kk => by have := hS1 kk; rw [List.nil_append]; omega
  have HLN2 : Hid (∀ kk, (sTxt wBuy bs ++ sTxt wSell (ss.take kk)).length ≤ 140000) := fun kk => by
    have := hS2 kk
    have h3 := hS1 bs.length
    rw [List.take_length] at h3
    rw [List.length_append]; omega
  have hB : Below w.heap.size w (w.alloc (.cells #[.slice q1 n1 c1, .slice q2 n2 c2] 24)) := (Below.refl _ _).alloc (Nat.le_refl _) _
  have hR := heap_alloc_new w (.cells #[.slice q1 n1 c1, .slice q2 n2 c2] 24)
  clear h1 h2 hne1 hne2 hc1 hc2 hl1 hl2 hS1 hS2
  go_enter Tryz.func8, Tryz.ntmps8
  go_wp2_with fail
  generalize w.alloc (.cells #[.slice q1 n1 c1, .slice q2 n2 c2] 24) = V at *
  have v0 : V.cell? ⟨w.heap.size, 0, none⟩ = some (.slice q1 n1 c1) := by simp [World.cell?, hR]
  have v1 : V.cell? ⟨w.heap.size, 1, none⟩ = some (.slice q2 n2 c2) := by simp [World.cell?, hR]
  have HWV : Hid (∀ W, Below V.heap.size V W → Below w.heap.size w W) := fun W hW => hB.trans (hW.mono hB.size)
  have HV0 := hidS v0
  have HV1 := hidS v1
  clear hR hB v0 v1
  go_loopg [3, 4, 5, 6, 7, 8, 9, 10, 11, 12] 2 (fun gg s3 s4 _ _ _ _ _ _ _ _ wr => ((s4 = .int .i64 1 ∧ s3 = .string ⟨#[]⟩ ∧ 2 ≤ gg) ∨ (s4 = .int .i64 2 ∧ s3 = .string ⟨(sTxt wBuy bs).toArray⟩ ∧ 1 ≤ gg) ∨ (s4 = .int .i64 3 ∧ s3 = .string ⟨(sTxt wBuy bs ++ sTxt wSell ss).toArray⟩)) ∧ Aside (Below V.heap.size V wr))
  case atStart => exact ⟨.inl ⟨rfl, rfl, Nat.le_refl _⟩, Below.refl _ _⟩
  case round =>
    obtain ⟨hor, BW⟩ := hrel
    have d0 := keeps BW.out HV0.out
    have d1 := keeps BW.out HV1.out
    rcases hor with ⟨rfl, rfl, hgk⟩ | ⟨rfl, rfl, hgk⟩ | ⟨rfl, rfl⟩
    · skip
      have hgm : 1 < gk := by omega
      go_wp2_with fail
      refine (rof_any 1 q1 q2 n1 n2 c1 c2 wr).mono ?_
      rintro e w1 ⟨rfl, hb1⟩
      rw [show (if (1 : Int) = 1 then Value.slice q1 n1 c1 else .slice q2 n2 c2) = .slice q1 n1 c1 from rfl]
      have HW1 : Hid (Below V.heap.size V w1) := BW.out.trans (hb1.mono BW.out.size)
      clear hb1 d0 d1
      go_wp2_with fail
      go_loopg [3, 6, 7, 8, 9, 10, 11, 12] n1 (fun g2 s3 s6 _ _ _ _ _ _ wi => ∃ kk : Nat, kk ≤ n1 ∧ n1 - kk ≤ g2 ∧ s6 = .int .i64 kk ∧ s3 = .string ⟨([] ++ sTxt wBuy (bs.take kk)).toArray⟩ ∧ Aside (Below V.heap.size V wi))
      case atStart => exact ⟨0, Nat.zero_le _, by omega, rfl, by simp [sTxt], HW1.out⟩
      case round =>
        obtain ⟨kk, hkk, hg2, rfl, rfl, BI⟩ := hrel
        obtain ⟨OUT, hOUT⟩ : ∃ OUT, [] ++ sTxt wBuy (bs.take kk) = OUT := ⟨_, rfl⟩
        have hol : OUT.length ≤ 140000 := by rw [← hOUT]; exact HLN1.out kk
        have HOUT := hidS hOUT
        rw [hOUT]
        clear hOUT
        by_cases hlt : kk < n1
        · have hltz : (kk : Int) < (n1 : Int) := by omega
          have hin1 : ¬ ((kk : Int) < 0) := by omega
          have hlz : kk < bs.length := by rw [← HN1.out]; exact hlt
          obtain ⟨b, o, rb, ro, rc, hq, hbs, a0, a1, hrs, hrl⟩ := HAT1.out kk hlz
          obtain ⟨l, hl⟩ : ∃ l, bs[kk]! = l := ⟨_, rfl⟩
          have hgl := HGD1.out kk hlz
          have HTK : Hid (sTxt wBuy (bs.take (kk + 1)) = sTxt wBuy (bs.take kk) ++ lTxt wBuy l) := by rw [← hl]; exact sTxt_take hlz
          obtain ⟨p, zs⟩ := l
          rw [hl] at a0 a1 hrl hgl
          simp only [] at a0 a1 hrl
          subst hq
          clear hl
          have hpp : (1 ≤ p ∧ p ≤ 10000) ∧ zs.length ≤ 60 ∧ ∀ r ∈ zs, rchk r = 0 := by
            obtain ⟨z1, -, z3⟩ := lchk_zero hgl
            obtain ⟨z4, z5⟩ := (qchk_zero _).1 z3
            exact ⟨z1, z4, z5.1⟩
          have HPP := hidS hpp
          obtain ⟨hp, hz60, -⟩ := hpp
          clear hgl
          have HC0 := hidS a0
          have HC1 := hidS a1
          have HLI : Hid (Lies w rb ro zs) := hrl
          have c0' := keeps (HWV.out _ BI.out) a0
          have c1' := keeps (HWV.out _ BI.out) a1
          obtain ⟨x, hx⟩ : ∃ x, dec p = x := ⟨_, rfl⟩
          have lx : x.length ≤ 5 := by rw [← hx]; exact dec_short (by omega) (by omega)
          have HDG : Hid (Calls Tryz.prog 29 #[.int .i64 p] wr fun e w' => e = .returned (.string ⟨x.toArray⟩) ∧ w' = wr) := by
            rw [← hx]; exact digits_any 4 p wr (by omega) (by omega) (by omega)
          have HLI2 : Hid (lTxt wBuy ⟨p, zs⟩ = (wBuy ++ [32] ++ x) ++ zTxt zs ++ [10]) := by rw [← hx]; rfl
          have g1 : ¬ 9223372036854775807 < OUT.length + 4 := by omega
          have g2' : ¬ 9223372036854775807 < OUT.length + 4 + x.length := by omega
          have HLX := hidS lx
          have HHP := hidS hp
          have HOL := hidS hol
          clear hx lx hrl a0 a1 hp hol
          go_wp2_with fail
          refine HDG.out.mono ?_
          rintro e w2 ⟨rfl, hw2⟩
          have hwd := hw2.symm
          clear hw2
          subst hwd
          clear HDG
          go_wp2_with fail
          rw [txt_three OUT x [98, 117, 121, 32]]
          obtain ⟨MID, hMID⟩ : ∃ MID, OUT ++ [98, 117, 121, 32] ++ x = MID := ⟨_, rfl⟩
          have hml : MID.length ≤ 140100 := by
            rw [← hMID]
            have h2 := HLX.out
            have h3 := HOL.out
            simp only [List.length_append, List.length_cons, List.length_nil]
            omega
          have HMD := hidS hMID
          have HML := hidS hml
          rw [hMID]
          have HWA := hidS (BI.out.alloc BI.out.size (.cells #[.string ⟨#[]⟩, .string ⟨#[98, 117, 121, 32]⟩, .string ⟨#[115, 101, 108, 108, 32]⟩] 9))
          clear hMID hml c0' c1' g1 g2'
          go_loopg [3, 8, 9, 10, 11, 12] zs.length (fun g3 s3 s8 _ _ _ _ wi => ∃ jj : Nat, jj ≤ zs.length ∧ zs.length - jj ≤ g3 ∧ s8 = .int .i64 jj ∧ s3 = .string ⟨(MID ++ zTxt (zs.take jj)).toArray⟩ ∧ Aside (Below V.heap.size V wi))
          case atStart => exact ⟨0, Nat.zero_le _, by omega, rfl, by simp [zTxt], HWA.out⟩
          case round =>
            obtain ⟨jj, hjj, hg3, rfl, rfl, BJ⟩ := hrel
            have c0' := keeps (HWV.out _ BJ.out) HC0.out
            have c1' := keeps (HWV.out _ BJ.out) HC1.out
            obtain ⟨OU2, hOU2⟩ : ∃ OU2, MID ++ zTxt (zs.take jj) = OU2 := ⟨_, rfl⟩
            have ho2 : OU2.length ≤ 142000 := by
              rw [← hOU2, List.length_append]
              have h2 := zTxt_len (zs := zs.take jj) (fun r h => HPP.out.2.2 r (List.mem_of_mem_take h))
              have h3 : (zs.take jj).length ≤ 60 := by rw [List.length_take]; omega
              have h4 := Nat.mul_le_mul_right 18 h3
              have h5 := HML.out
              omega
            have HO2 := hidS hOU2
            rw [hOU2]
            clear hOU2
            by_cases hlt2 : jj < zs.length
            · have hltz2 : (jj : Int) < (zs.length : Int) := by omega
              have hin2 : ¬ ((jj : Int) < 0) := by omega
              obtain ⟨r, hr⟩ : ∃ r, zs[jj]! = r := ⟨_, rfl⟩
              have HRC : Hid (rchk r = 0) := by rw [← hr]; exact HPP.out.2.2 _ (by rw [getE _ _ hlt2]; exact List.getElem_mem hlt2)
              have HZT : Hid (zTxt (zs.take (jj + 1)) = zTxt (zs.take jj) ++ ([32] ++ rTxt r)) := by rw [← hr]; exact zTxt_take hlt2
              obtain ⟨r1, r2, r3, r4, r5⟩ := r
              obtain ⟨a0, a1, a2, a3, a4⟩ := lies_at HLI.out hlt2 hr
              have d0 := keeps (HWV.out _ BJ.out) a0
              have d1 := keeps (HWV.out _ BJ.out) a1
              have d2 := keeps (HWV.out _ BJ.out) a2
              have d3 := keeps (HWV.out _ BJ.out) a3
              have d4 := keeps (HWV.out _ BJ.out) a4
              have hrr : (1 ≤ r3 ∧ r3 ≤ 10000) ∧ (0 ≤ r4 ∧ r4 ≤ 10000) ∧ (1 ≤ r1 ∧ r1 ≤ 9999) := by
                obtain ⟨z1, z2, -, -, -, z3, -⟩ := rchk_zero HRC.out
                exact ⟨z1, z2, z3⟩
              obtain ⟨x1, hx1⟩ : ∃ x, dec r1 = x := ⟨_, rfl⟩
              obtain ⟨x3, hx3⟩ : ∃ x, dec r3 = x := ⟨_, rfl⟩
              obtain ⟨x4, hx4⟩ : ∃ x, dec r4 = x := ⟨_, rfl⟩
              have l1 : x1.length ≤ 5 := by rw [← hx1]; exact dec_short (by omega) (by omega)
              have l3 : x3.length ≤ 5 := by rw [← hx3]; exact dec_short (by omega) (by omega)
              have l4 : x4.length ≤ 5 := by rw [← hx4]; exact dec_short (by omega) (by omega)
              have HRT : Hid (rTxt ⟨r1, r2, r3, r4, r5⟩ = x1 ++ [58] ++ x3 ++ (if 0 < r4 then [43] ++ x4 else [])) := by rw [← hx1, ← hx3, ← hx4]; rfl
              have D1 : Hid (Calls Tryz.prog 29 #[.int .i64 r1] (wr.alloc (.cells #[.int .i64 r1, .int .i64 r2, .int .i64 r3, .int .i64 r4, .int .i64 r5] 26)) fun e w' => e = .returned (.string ⟨x1.toArray⟩) ∧ w' = wr.alloc (.cells #[.int .i64 r1, .int .i64 r2, .int .i64 r3, .int .i64 r4, .int .i64 r5] 26)) := by rw [← hx1]; exact digits_any 4 r1 _ (by omega) (by omega) (by omega)
              have D3 : Hid (Calls Tryz.prog 29 #[.int .i64 r3] (wr.alloc (.cells #[.int .i64 r1, .int .i64 r2, .int .i64 r3, .int .i64 r4, .int .i64 r5] 26)) fun e w' => e = .returned (.string ⟨x3.toArray⟩) ∧ w' = wr.alloc (.cells #[.int .i64 r1, .int .i64 r2, .int .i64 r3, .int .i64 r4, .int .i64 r5] 26)) := by rw [← hx3]; exact digits_any 4 r3 _ (by omega) (by omega) (by omega)
              have D4 : Hid (Calls Tryz.prog 29 #[.int .i64 r4] (wr.alloc (.cells #[.int .i64 r1, .int .i64 r2, .int .i64 r3, .int .i64 r4, .int .i64 r5] 26)) fun e w' => e = .returned (.string ⟨x4.toArray⟩) ∧ w' = wr.alloc (.cells #[.int .i64 r1, .int .i64 r2, .int .i64 r3, .int .i64 r4, .int .i64 r5] 26)) := by rw [← hx4]; exact digits_any 4 r4 _ (by omega) (by omega) (by omega)
              have HWB := hidS (BJ.out.alloc BJ.out.size (.cells #[.int .i64 r1, .int .i64 r2, .int .i64 r3, .int .i64 r4, .int .i64 r5] 26))
              have s1 : ¬ 9223372036854775807 < OU2.length + 1 := by omega
              have s2 : ¬ 9223372036854775807 < OU2.length + 1 + x1.length := by omega
              have s3 : ¬ 9223372036854775807 < OU2.length + 1 + x1.length + 1 := by omega
              have s4 : ¬ 9223372036854775807 < OU2.length + 1 + x1.length + 1 + x3.length := by omega
              have s5 : ¬ 9223372036854775807 < OU2.length + 1 + x1.length + 1 + x3.length + 1 := by omega
              have s6 : ¬ 9223372036854775807 < OU2.length + 1 + x1.length + 1 + x3.length + 1 + x4.length := by omega
              have es := wrapSuccS jj zs.length hlt2 (by omega)
              clear a0 a1 a2 a3 a4 hr hx1 hx3 hx4 l1 l3 l4 hrr ho2
              go_wp2_with fail
              refine D1.out.mono ?_
              rintro e w2 ⟨rfl, hw2⟩
              rw [hw2]
              clear hw2 w2
              go_wp2_with fail
              refine D3.out.mono ?_
              rintro e w2 ⟨rfl, hw2⟩
              rw [hw2]
              clear hw2 w2
              by_cases hh : 0 < r4
              · go_wp2_with fail
                refine D4.out.mono ?_
                rintro e w2 ⟨rfl, hw2⟩
                rw [hw2]
                clear hw2 w2
                go_wp2_with fail
                go_roundg (zs.length - (jj + 1))
                case measure => clear es s1 s2 s3 s4 s5 s6; omega
                case rel => exact ⟨jj + 1, hlt2, Nat.le_refl _, by go_num, by rw [txt_six, HZT.out, HRT.out, if_pos hh, ← HO2.out]; simp, HWB.out⟩
              · go_wp2_with fail
                go_roundg (zs.length - (jj + 1))
                case measure => clear es s1 s2 s3 s4 s5 s6; omega
                case rel => exact ⟨jj + 1, hlt2, Nat.le_refl _, by go_num, by rw [txt_five, HZT.out, HRT.out, if_neg (by omega), ← HO2.out]; simp, HWB.out⟩
            · have hltz2 : ¬ (jj : Int) < (zs.length : Int) := by omega
              have s1 : ¬ 9223372036854775807 < OU2.length + 1 := by omega
              have HEQ : Hid ([] ++ sTxt wBuy (bs.take (kk + 1)) = OU2 ++ [10]) := by
                show _ = _
                have hz : zs.take jj = zs := List.take_of_length_le (by omega)
                rw [← HO2.out, hz, HTK.out, HLI2.out, ← HMD.out, ← HOUT.out]
                simp [wBuy]
              have es := wrapSuccS kk n1 hlt (by omega)
              clear ho2
              go_wp2_with fail
              go_roundg (n1 - (kk + 1))
              case measure => clear es s1; omega
              case rel => exact ⟨kk + 1, hlt, Nat.le_refl _, by go_num, by rw [HEQ.out, ← app_str], BJ.out⟩
        · have hltz : ¬ (kk : Int) < (n1 : Int) := by omega
          have HEQ : Hid (OUT = sTxt wBuy bs) := by
            show _ = _
            rw [← HOUT.out, List.take_of_length_le (by rw [← HN1.out]; omega)]
            rw [List.nil_append]
          have hog := HEQ.out
          clear hol
          go_wp2_with fail
          go_roundg (1)
          case measure => exact hgm
          case rel => exact ⟨.inr (.inl ⟨rfl, by first | rfl | rw [hog], Nat.le_refl _⟩), BI.out⟩

    · skip
      have hgm : 0 < gk := by omega
      go_wp2_with fail
      refine (rof_any 2 q1 q2 n1 n2 c1 c2 wr).mono ?_
      rintro e w1 ⟨rfl, hb1⟩
      rw [show (if (2 : Int) = 1 then Value.slice q1 n1 c1 else .slice q2 n2 c2) = .slice q2 n2 c2 from rfl]
      have HW1 : Hid (Below V.heap.size V w1) := BW.out.trans (hb1.mono BW.out.size)
      clear hb1 d0 d1
      go_wp2_with fail
      go_loopg [3, 6, 7, 8, 9, 10, 11, 12] n2 (fun g2 s3 s6 _ _ _ _ _ _ wi => ∃ kk : Nat, kk ≤ n2 ∧ n2 - kk ≤ g2 ∧ s6 = .int .i64 kk ∧ s3 = .string ⟨(sTxt wBuy bs ++ sTxt wSell (ss.take kk)).toArray⟩ ∧ Aside (Below V.heap.size V wi))
      case atStart => exact ⟨0, Nat.zero_le _, by omega, rfl, by simp [sTxt], HW1.out⟩
      case round =>
        obtain ⟨kk, hkk, hg2, rfl, rfl, BI⟩ := hrel
        obtain ⟨OUT, hOUT⟩ : ∃ OUT, sTxt wBuy bs ++ sTxt wSell (ss.take kk) = OUT := ⟨_, rfl⟩
        have hol : OUT.length ≤ 140000 := by rw [← hOUT]; exact HLN2.out kk
        have HOUT := hidS hOUT
        rw [hOUT]
        clear hOUT
        by_cases hlt : kk < n2
        · have hltz : (kk : Int) < (n2 : Int) := by omega
          have hin1 : ¬ ((kk : Int) < 0) := by omega
          have hlz : kk < ss.length := by rw [← HN2.out]; exact hlt
          obtain ⟨b, o, rb, ro, rc, hq, hbs, a0, a1, hrs, hrl⟩ := HAT2.out kk hlz
          obtain ⟨l, hl⟩ : ∃ l, ss[kk]! = l := ⟨_, rfl⟩
          have hgl := HGD2.out kk hlz
          have HTK : Hid (sTxt wSell (ss.take (kk + 1)) = sTxt wSell (ss.take kk) ++ lTxt wSell l) := by rw [← hl]; exact sTxt_take hlz
          obtain ⟨p, zs⟩ := l
          rw [hl] at a0 a1 hrl hgl
          simp only [] at a0 a1 hrl
          subst hq
          clear hl
          have hpp : (1 ≤ p ∧ p ≤ 10000) ∧ zs.length ≤ 60 ∧ ∀ r ∈ zs, rchk r = 0 := by
            obtain ⟨z1, -, z3⟩ := lchk_zero hgl
            obtain ⟨z4, z5⟩ := (qchk_zero _).1 z3
            exact ⟨z1, z4, z5.1⟩
          have HPP := hidS hpp
          obtain ⟨hp, hz60, -⟩ := hpp
          clear hgl
          have HC0 := hidS a0
          have HC1 := hidS a1
          have HLI : Hid (Lies w rb ro zs) := hrl
          have c0' := keeps (HWV.out _ BI.out) a0
          have c1' := keeps (HWV.out _ BI.out) a1
          obtain ⟨x, hx⟩ : ∃ x, dec p = x := ⟨_, rfl⟩
          have lx : x.length ≤ 5 := by rw [← hx]; exact dec_short (by omega) (by omega)
          have HDG : Hid (Calls Tryz.prog 29 #[.int .i64 p] wr fun e w' => e = .returned (.string ⟨x.toArray⟩) ∧ w' = wr) := by
            rw [← hx]; exact digits_any 4 p wr (by omega) (by omega) (by omega)
          have HLI2 : Hid (lTxt wSell ⟨p, zs⟩ = (wSell ++ [32] ++ x) ++ zTxt zs ++ [10]) := by rw [← hx]; rfl
          have g1 : ¬ 9223372036854775807 < OUT.length + 5 := by omega
          have g2' : ¬ 9223372036854775807 < OUT.length + 5 + x.length := by omega
          have HLX := hidS lx
          have HHP := hidS hp
          have HOL := hidS hol
          clear hx lx hrl a0 a1 hp hol
          go_wp2_with fail
          refine HDG.out.mono ?_
          rintro e w2 ⟨rfl, hw2⟩
          have hwd := hw2.symm
          clear hw2
          subst hwd
          clear HDG
          go_wp2_with fail
          rw [txt_three OUT x [115, 101, 108, 108, 32]]
          obtain ⟨MID, hMID⟩ : ∃ MID, OUT ++ [115, 101, 108, 108, 32] ++ x = MID := ⟨_, rfl⟩
          have hml : MID.length ≤ 140100 := by
            rw [← hMID]
            have h2 := HLX.out
            have h3 := HOL.out
            simp only [List.length_append, List.length_cons, List.length_nil]
            omega
          have HMD := hidS hMID
          have HML := hidS hml
          rw [hMID]
          have HWA := hidS (BI.out.alloc BI.out.size (.cells #[.string ⟨#[]⟩, .string ⟨#[98, 117, 121, 32]⟩, .string ⟨#[115, 101, 108, 108, 32]⟩] 9))
          clear hMID hml c0' c1' g1 g2'
          go_loopg [3, 8, 9, 10, 11, 12] zs.length (fun g3 s3 s8 _ _ _ _ wi => ∃ jj : Nat, jj ≤ zs.length ∧ zs.length - jj ≤ g3 ∧ s8 = .int .i64 jj ∧ s3 = .string ⟨(MID ++ zTxt (zs.take jj)).toArray⟩ ∧ Aside (Below V.heap.size V wi))
          case atStart => exact ⟨0, Nat.zero_le _, by omega, rfl, by simp [zTxt], HWA.out⟩
          case round =>
            obtain ⟨jj, hjj, hg3, rfl, rfl, BJ⟩ := hrel
            have c0' := keeps (HWV.out _ BJ.out) HC0.out
            have c1' := keeps (HWV.out _ BJ.out) HC1.out
            obtain ⟨OU2, hOU2⟩ : ∃ OU2, MID ++ zTxt (zs.take jj) = OU2 := ⟨_, rfl⟩
            have ho2 : OU2.length ≤ 142000 := by
              rw [← hOU2, List.length_append]
              have h2 := zTxt_len (zs := zs.take jj) (fun r h => HPP.out.2.2 r (List.mem_of_mem_take h))
              have h3 : (zs.take jj).length ≤ 60 := by rw [List.length_take]; omega
              have h4 := Nat.mul_le_mul_right 18 h3
              have h5 := HML.out
              omega
            have HO2 := hidS hOU2
            rw [hOU2]
            clear hOU2
            by_cases hlt2 : jj < zs.length
            · have hltz2 : (jj : Int) < (zs.length : Int) := by omega
              have hin2 : ¬ ((jj : Int) < 0) := by omega
              obtain ⟨r, hr⟩ : ∃ r, zs[jj]! = r := ⟨_, rfl⟩
              have HRC : Hid (rchk r = 0) := by rw [← hr]; exact HPP.out.2.2 _ (by rw [getE _ _ hlt2]; exact List.getElem_mem hlt2)
              have HZT : Hid (zTxt (zs.take (jj + 1)) = zTxt (zs.take jj) ++ ([32] ++ rTxt r)) := by rw [← hr]; exact zTxt_take hlt2
              obtain ⟨r1, r2, r3, r4, r5⟩ := r
              obtain ⟨a0, a1, a2, a3, a4⟩ := lies_at HLI.out hlt2 hr
              have d0 := keeps (HWV.out _ BJ.out) a0
              have d1 := keeps (HWV.out _ BJ.out) a1
              have d2 := keeps (HWV.out _ BJ.out) a2
              have d3 := keeps (HWV.out _ BJ.out) a3
              have d4 := keeps (HWV.out _ BJ.out) a4
              have hrr : (1 ≤ r3 ∧ r3 ≤ 10000) ∧ (0 ≤ r4 ∧ r4 ≤ 10000) ∧ (1 ≤ r1 ∧ r1 ≤ 9999) := by
                obtain ⟨z1, z2, -, -, -, z3, -⟩ := rchk_zero HRC.out
                exact ⟨z1, z2, z3⟩
              obtain ⟨x1, hx1⟩ : ∃ x, dec r1 = x := ⟨_, rfl⟩
              obtain ⟨x3, hx3⟩ : ∃ x, dec r3 = x := ⟨_, rfl⟩
              obtain ⟨x4, hx4⟩ : ∃ x, dec r4 = x := ⟨_, rfl⟩
              have l1 : x1.length ≤ 5 := by rw [← hx1]; exact dec_short (by omega) (by omega)
              have l3 : x3.length ≤ 5 := by rw [← hx3]; exact dec_short (by omega) (by omega)
              have l4 : x4.length ≤ 5 := by rw [← hx4]; exact dec_short (by omega) (by omega)
              have HRT : Hid (rTxt ⟨r1, r2, r3, r4, r5⟩ = x1 ++ [58] ++ x3 ++ (if 0 < r4 then [43] ++ x4 else [])) := by rw [← hx1, ← hx3, ← hx4]; rfl
              have D1 : Hid (Calls Tryz.prog 29 #[.int .i64 r1] (wr.alloc (.cells #[.int .i64 r1, .int .i64 r2, .int .i64 r3, .int .i64 r4, .int .i64 r5] 26)) fun e w' => e = .returned (.string ⟨x1.toArray⟩) ∧ w' = wr.alloc (.cells #[.int .i64 r1, .int .i64 r2, .int .i64 r3, .int .i64 r4, .int .i64 r5] 26)) := by rw [← hx1]; exact digits_any 4 r1 _ (by omega) (by omega) (by omega)
              have D3 : Hid (Calls Tryz.prog 29 #[.int .i64 r3] (wr.alloc (.cells #[.int .i64 r1, .int .i64 r2, .int .i64 r3, .int .i64 r4, .int .i64 r5] 26)) fun e w' => e = .returned (.string ⟨x3.toArray⟩) ∧ w' = wr.alloc (.cells #[.int .i64 r1, .int .i64 r2, .int .i64 r3, .int .i64 r4, .int .i64 r5] 26)) := by rw [← hx3]; exact digits_any 4 r3 _ (by omega) (by omega) (by omega)
              have D4 : Hid (Calls Tryz.prog 29 #[.int .i64 r4] (wr.alloc (.cells #[.int .i64 r1, .int .i64 r2, .int .i64 r3, .int .i64 r4, .int .i64 r5] 26)) fun e w' => e = .returned (.string ⟨x4.toArray⟩) ∧ w' = wr.alloc (.cells #[.int .i64 r1, .int .i64 r2, .int .i64 r3, .int .i64 r4, .int .i64 r5] 26)) := by rw [← hx4]; exact digits_any 4 r4 _ (by omega) (by omega) (by omega)
              have HWB := hidS (BJ.out.alloc BJ.out.size (.cells #[.int .i64 r1, .int .i64 r2, .int .i64 r3, .int .i64 r4, .int .i64 r5] 26))
              have s1 : ¬ 9223372036854775807 < OU2.length + 1 := by omega
              have s2 : ¬ 9223372036854775807 < OU2.length + 1 + x1.length := by omega
              have s3 : ¬ 9223372036854775807 < OU2.length + 1 + x1.length + 1 := by omega
              have s4 : ¬ 9223372036854775807 < OU2.length + 1 + x1.length + 1 + x3.length := by omega
              have s5 : ¬ 9223372036854775807 < OU2.length + 1 + x1.length + 1 + x3.length + 1 := by omega
              have s6 : ¬ 9223372036854775807 < OU2.length + 1 + x1.length + 1 + x3.length + 1 + x4.length := by omega
              have es := wrapSuccS jj zs.length hlt2 (by omega)
              clear a0 a1 a2 a3 a4 hr hx1 hx3 hx4 l1 l3 l4 hrr ho2
              go_wp2_with fail
              refine D1.out.mono ?_
              rintro e w2 ⟨rfl, hw2⟩
              rw [hw2]
              clear hw2 w2
              go_wp2_with fail
              refine D3.out.mono ?_
              rintro e w2 ⟨rfl, hw2⟩
              rw [hw2]
              clear hw2 w2
              by_cases hh : 0 < r4
              · go_wp2_with fail
                refine D4.out.mono ?_
                rintro e w2 ⟨rfl, hw2⟩
                rw [hw2]
                clear hw2 w2
                go_wp2_with fail
                go_roundg (zs.length - (jj + 1))
                case measure => clear es s1 s2 s3 s4 s5 s6; omega
                case rel => exact ⟨jj + 1, hlt2, Nat.le_refl _, by go_num, by rw [txt_six, HZT.out, HRT.out, if_pos hh, ← HO2.out]; simp, HWB.out⟩
              · go_wp2_with fail
                go_roundg (zs.length - (jj + 1))
                case measure => clear es s1 s2 s3 s4 s5 s6; omega
                case rel => exact ⟨jj + 1, hlt2, Nat.le_refl _, by go_num, by rw [txt_five, HZT.out, HRT.out, if_neg (by omega), ← HO2.out]; simp, HWB.out⟩
            · have hltz2 : ¬ (jj : Int) < (zs.length : Int) := by omega
              have s1 : ¬ 9223372036854775807 < OU2.length + 1 := by omega
              have HEQ : Hid (sTxt wBuy bs ++ sTxt wSell (ss.take (kk + 1)) = OU2 ++ [10]) := by
                show _ = _
                have hz : zs.take jj = zs := List.take_of_length_le (by omega)
                rw [← HO2.out, hz, HTK.out, HLI2.out, ← HMD.out, ← HOUT.out]
                simp [wSell]
              have es := wrapSuccS kk n2 hlt (by omega)
              clear ho2
              go_wp2_with fail
              go_roundg (n2 - (kk + 1))
              case measure => clear es s1; omega
              case rel => exact ⟨kk + 1, hlt, Nat.le_refl _, by go_num, by rw [HEQ.out, ← app_str], BJ.out⟩
        · have hltz : ¬ (kk : Int) < (n2 : Int) := by omega
          have HEQ : Hid (OUT = sTxt wBuy bs ++ sTxt wSell ss) := by
            show _ = _
            rw [← HOUT.out, List.take_of_length_le (by rw [← HN2.out]; omega)]
            skip
          have hog := HEQ.out
          clear hol
          go_wp2_with fail
          go_roundg (0)
          case measure => exact hgm
          case rel => exact ⟨.inr (.inr ⟨rfl, by first | rfl | rw [hog]⟩), BI.out⟩

    · go_wp2_with fail
      go_ret
      exact ⟨rfl, HWV.out _ BW.out⟩
end Go.Proofs.YtmgodofnhjmbfaaGreatDoor.bld
