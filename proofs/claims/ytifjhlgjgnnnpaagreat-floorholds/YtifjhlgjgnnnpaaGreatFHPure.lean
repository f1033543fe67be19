import Derived.Test.YtifjhlgjgnnnpaaGreatFlrVis
import Derived.Test.YtifjhlgjgnnnpaaGreatFlrOk
namespace Go.Proofs.YtifjhlgjgnnnpaaGreat
namespace flr
open Go.RowKit que sid mee bok
open ord (O oV chk prB mB)
open kin (setB setS setG setE)
open slf (V Fine sE zEm lfV gnV repB repS)
open mrg (resv forC forS zBh zBW zBX zBi zBF zBG)
open pur (Pz Ok ix newL payP zBD zBu zBE zBv)
def hO:O:=⟨1,2,1,1,100,7,0,0⟩
def hB:List L:=[⟨100,[⟨1,2,7,0,0⟩]⟩]
def hP:List Pz:=zBu (payP (newL 9) 2 1000) 2 700 0
def hF0:FS:=⟨1,0,[],[],[],newL 9⟩
def hF1:FS:=⟨1,0,[],[],[],payP (newL 9) 2 1000⟩
def hS2:TS:=⟨1,0,hB,[],[],hP,[⟨1,1,7,100,zeroT⟩],[]⟩
theorem h_pay:fdo hF0 ⟨4,⟨0,0,0,0,0,0,0,0⟩,2,1000⟩=.ok (zAq hF1):=zQS (f:=hF0) (by kernel_rfl)
theorem h_fine:Fine 1 hO [] 7 ⟨[],[],7,false,[]⟩:=.stop (fun _ _ e=>by cases e)
theorem zPk:theV 1 hO (zAr [] [] hO) hO.qty=⟨[],[],7,false,[]⟩:=zHr h_fine
theorem h_vE:vE 1 [] [] hO=0:=by
 unfold vE
 rw[if_neg (by decide),if_pos (show zAu [] [] hO=0 by decide),zPk]
 kernel_rfl
theorem h_vR:vR 1 [] [] hO=⟨hB,[],[],0,[]⟩:=by
 unfold vR
 rw[if_neg (by decide)]
 simp only[zPk]
 kernel_rfl
theorem h_do:fdo (zCm (zAq hF1)) ⟨1,hO,0,0⟩=.ok hS2:=by
 have hH:zDw (zAq hF1) 2 700 0=.ok ⟨1,0,[],[],[],hP,[],[]⟩:=by kernel_rfl
 have hFr:zCq ⟨1,0,[],[],[],hP,[],[]⟩ 2 0 0=.ok ⟨1,0,[],[],[],hP,[],[]⟩:=by kernel_rfl
 have hC:come ⟨1,0,[],[],[],hP,[],[]⟩ hO=.ok hS2:=by
  unfold come
  show (if vE 1 [] [] hO=0 then settle ⟨1,0,[],[],[],hP,[],[]⟩ hO (vR 1 [] [] hO) else Except.error (vE 1 [] [] hO))=_
  rw[if_pos h_vE,h_vR]
  unfold settle
  show (if zBh hO [] 0=0 then (zCq ⟨1,0,[],[],[],hP,[],[]⟩ 2 (zBW hO [] 0) (zBX hO [] 0)).bind _ else Except.error (zBh hO [] 0))=_
  rw[if_pos (show zBh hO [] 0=0 by decide),show zBW hO [] 0=0 by kernel_rfl,show zBX hO [] 0=0 by kernel_rfl,hFr]
  rfl
 have e:doC (zAq (zCm (zAq hF1))) ⟨1,hO,0,0⟩=.ok hS2:=by
  show place (zAq hF1) hO=_
  unfold place
  rw[if_pos (show chk hO=0 by decide),if_neg (show ¬has (zAq hF1) hO.id=true by decide),show forC hO=700 by kernel_rfl,show forS hO=0 by kernel_rfl]
  show (zDw (zAq hF1) 2 700 0).bind _=_
  rw[hH]
  exact hC
 unfold fdo
 rw[e]
 exact zBB _ _ rfl
theorem zQT:pur.getZ (zCm hS2).ps 2=⟨2,1000,700,0,0⟩:=by kernel_rfl
def ten(f:Nat→Int):List Int:=(List.range 10).map f
theorem zQU(f:Nat→Int):(ten f).length=10:=by simp[ten]
theorem ten_at(f:Nat→Int){k:Nat}(h:k<10):(ten f)[k]! = f k:=by
 have h2:k<(ten f).length:=by rw[zQU];exact h
 rw[show (ten f)[k]! = (ten f)[k] by simp[h2]]
 simp[ten]
theorem zQV(f g:Nat→Int){k:Nat}(hg:∀j,j<10→g j=if j=k then f k+(g k - f k) else f j):(ten f).set k (g k)=ten g:=by
 apply List.ext_getElem
 ·simp[ten]
 ·intro i h1 h2
  have hi:i<10:=by simpa [ten] using h2
  rw[List.getElem_set]
  have e:=hg i hi
  simp only[ten,List.getElem_map,List.getElem_range]
  split
  ·rename_i hk;rw[hk]
  ·rename_i hk;rw[e,if_neg (fun x=>hk x.symm)]
end flr
end Go.Proofs.YtifjhlgjgnnnpaaGreat
