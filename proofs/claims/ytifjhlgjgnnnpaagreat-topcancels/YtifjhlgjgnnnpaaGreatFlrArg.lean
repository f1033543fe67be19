import Derived.Test.YtifjhlgjgnnnpaaGreatRows
import Derived.Test.YtifjhlgjgnnnpaaGreatFlrSmall
import Derived.OpenShut
import Derived.Deep.Slices
import Derived.Carry
set_option maxRecDepth 100000
namespace Go.Proofs.YtifjhlgjgnnnpaaGreat
namespace flr
open Go.ChangeShapes Go.WideShapes Go.ChangeAt Go.RowKit Go.Deep
open ord (O)
def cmL(c:Cm):List Value:=[.int .i64 c.what,.int .i64 c.o.id,.int .i64 c.o.who,.int .i64 c.o.side,.int .i64 c.o.kind,.int .i64 c.o.price,.int .i64 c.o.qty,.int .i64 c.o.shw,.int .i64 c.o.stop,.int .i64 c.who,.int .i64 c.n]
instance:Inhabited Cm:=⟨⟨0,⟨0,0,0,0,0,0,0,0⟩,0,0⟩⟩
def CLies(w:World)(b o:Nat)(zs:List Cm):Prop:=∀j,j<zs.length→(∀i v,(cmL zs[j]!)[i]?=some v→w.cell? ⟨b,o+j*11+i,none⟩=some v)∧(Lit.int .i64 (zs[j]!).o.id).wf=true
def CL(w:World)(v:Value)(zs:List Cm):Prop:=
 (v=.slice none 0 0∧zs=[])∨∃b o c,v=.slice (some ⟨b,o,none⟩) zs.length c∧zs.length≤c∧c≤9223372036854775807∧b<w.heap.size∧CLies w b o zs
theorem CL.below{w w' : World}{v:Value}{zs:List Cm}(h:CL w v zs)(hB:Below w.heap.size w w'):CL w' v zs:=by
 rcases h with h|⟨b,o,c,h1,h2,h3,h4,h5⟩
 ·exact .inl h
 ·exact .inr ⟨b,o,c,h1,h2,h3,Nat.lt_of_lt_of_le h4 hB.size,fun j hj=>⟨fun i v hv=>(hB.cell (p:=⟨b,o+j*11+i,none⟩) h4).trans ((h5 j hj).1 i v hv),(h5 j hj).2⟩⟩
theorem CL.form{w:World}{v:Value}{zs:List Cm}(h:CL w v zs):∃q c,v=.slice q zs.length c∧zs.length≤9223372036854775807:=by
 rcases h with ⟨h1,h2⟩|⟨b,o,c,h1,h2,h3,h4,h5⟩
 ·subst h2;exact⟨none,0,h1,by simp⟩
 ·exact⟨some ⟨b,o,none⟩,c,h1,by omega⟩
theorem CL.at{w:World}{q:Option Addr}{n c:Nat}{zs:List Cm}(h:CL w (.slice q n c) zs){k:Nat}(hk:k<zs.length):∃g off,q=some ⟨g,off,none⟩∧g<w.heap.size∧(∀i v,(cmL zs[k]!)[i]?=some v→w.cell? ⟨g,off+k*11+i,none⟩=some v)∧(Lit.int .i64 (zs[k]!).o.id).wf=true:=by
 rcases h with ⟨h1,h2⟩|⟨b,o,c,h1,h2,h3,h4,h5⟩
 ·subst h2;simp at hk
 ·cases h1
  exact⟨b,o,rfl,h4,(h5 k hk).1,(h5 k hk).2⟩
theorem list4{α:Type}{l:List α}(h:l.length=4):∃c0 c1 c2 c3,l=[c0,c1,c2,c3]:=by
 match l,h with
 | [c0,c1,c2,c3],_=>exact⟨c0,c1,c2,c3,rfl⟩
theorem list8{α:Type}{l:List α}(h:l.length=8):∃c0 c1 c2 c3 c4 c5 c6 c7,l=[c0,c1,c2,c3,c4,c5,c6,c7]:=by
 match l,h with
 | [c0,c1,c2,c3,c4,c5,c6,c7],_=>exact⟨c0,c1,c2,c3,c4,c5,c6,c7,rfl⟩
theorem list11{α:Type}{l:List α}(h:l.length=11):∃c0 c1 c2 c3 c4 c5 c6 c7 c8 c9 c10,l=[c0,c1,c2,c3,c4,c5,c6,c7,c8,c9,c10]:=by
 match l,h with
 | [c0,c1,c2,c3,c4,c5,c6,c7,c8,c9,c10],_=>exact⟨c0,c1,c2,c3,c4,c5,c6,c7,c8,c9,c10,rfl⟩
theorem getC{α:Type}[Inhabited α](l:List α)(j:Nat)(h:j<l.length):l[j]! = l[j]:=by simp[h]
theorem cellsC:Tryz.prog.cellsOf 34=11:=by kernel_rfl
theorem cellsO:Tryz.prog.cellsOf 32=8:=by kernel_rfl
theorem cellsI:Tryz.prog.cellsOf 3=1:=by kernel_rfl
section
variable {H:Type}{enc:TypeId × Value→H}{w:World}{base:Nat}{sp:Nat→Bool}{held:Bool}
theorem zCo{n:Nat}{cs:List Value}{x:DataW H × List MemPlace}(h:DataW.trod enc Tryz.prog w base sp held n 32 cs=some x)(hl:cs.length=8) :
  ∃r:O,cs=wak.oL r∧(Lit.int .i64 r.id).wf=true:=by
 obtain⟨c0,c1,c2,c3,c4,c5,c6,c7,rfl⟩:=list8 hl
 obtain⟨xs,n,_,hx,_,hlen,hF⟩:=DataW.trod_struct Tryz.underlying32 h
 obtain⟨y0,y1,y2,y3,y4,y5,y6,y7,rfl⟩:=list8 hlen
 have h0:DataW.trod enc Tryz.prog w base sp held n 3 (([c0,c1,c2,c3,c4,c5,c6,c7].drop 0).take (Tryz.prog.cellsOf 3))=some y0:=hF 0 _ rfl
 rw[cellsI] at h0
 obtain⟨a0,e0,_,f0⟩:=DataW.trod_int Tryz.underlying3 h0
 have h1:DataW.trod enc Tryz.prog w base sp held n 3 (([c0,c1,c2,c3,c4,c5,c6,c7].drop 1).take (Tryz.prog.cellsOf 3))=some y1:=hF 1 _ rfl
 rw[cellsI] at h1
 obtain⟨a1,e1,_,f1⟩:=DataW.trod_int Tryz.underlying3 h1
 have h2:DataW.trod enc Tryz.prog w base sp held n 3 (([c0,c1,c2,c3,c4,c5,c6,c7].drop 2).take (Tryz.prog.cellsOf 3))=some y2:=hF 2 _ rfl
 rw[cellsI] at h2
 obtain⟨a2,e2,_,f2⟩:=DataW.trod_int Tryz.underlying3 h2
 have h3:DataW.trod enc Tryz.prog w base sp held n 3 (([c0,c1,c2,c3,c4,c5,c6,c7].drop 3).take (Tryz.prog.cellsOf 3))=some y3:=hF 3 _ rfl
 rw[cellsI] at h3
 obtain⟨a3,e3,_,f3⟩:=DataW.trod_int Tryz.underlying3 h3
 have h4:DataW.trod enc Tryz.prog w base sp held n 3 (([c0,c1,c2,c3,c4,c5,c6,c7].drop 4).take (Tryz.prog.cellsOf 3))=some y4:=hF 4 _ rfl
 rw[cellsI] at h4
 obtain⟨a4,e4,_,f4⟩:=DataW.trod_int Tryz.underlying3 h4
 have h5:DataW.trod enc Tryz.prog w base sp held n 3 (([c0,c1,c2,c3,c4,c5,c6,c7].drop 5).take (Tryz.prog.cellsOf 3))=some y5:=hF 5 _ rfl
 rw[cellsI] at h5
 obtain⟨a5,e5,_,f5⟩:=DataW.trod_int Tryz.underlying3 h5
 have h6:DataW.trod enc Tryz.prog w base sp held n 3 (([c0,c1,c2,c3,c4,c5,c6,c7].drop 6).take (Tryz.prog.cellsOf 3))=some y6:=hF 6 _ rfl
 rw[cellsI] at h6
 obtain⟨a6,e6,_,f6⟩:=DataW.trod_int Tryz.underlying3 h6
 have h7:DataW.trod enc Tryz.prog w base sp held n 3 (([c0,c1,c2,c3,c4,c5,c6,c7].drop 7).take (Tryz.prog.cellsOf 3))=some y7:=hF 7 _ rfl
 rw[cellsI] at h7
 obtain⟨a7,e7,_,f7⟩:=DataW.trod_int Tryz.underlying3 h7
 simp at e0 e1 e2 e3 e4 e5 e6 e7
 subst e0 e1 e2 e3 e4 e5 e6 e7
 exact⟨⟨a0,a1,a2,a3,a4,a5,a6,a7⟩,rfl,f0⟩
theorem zBT{n:Nat}{cs:List Value}{x:DataW H × List MemPlace}(h:DataW.trod enc Tryz.prog w base sp held n 34 cs=some x)(hl:cs.length=11) :
  ∃r:Cm,cs=cmL r∧(Lit.int .i64 r.o.id).wf=true:=by
 obtain⟨c0,c1,c2,c3,c4,c5,c6,c7,c8,c9,c10,rfl⟩:=list11 hl
 obtain⟨xs,n,_,hx,_,hlen,hF⟩:=DataW.trod_struct Tryz.underlying34 h
 obtain⟨y0,y1,y2,y3,rfl⟩:=list4 hlen
 have h0:DataW.trod enc Tryz.prog w base sp held n 3 (([c0,c1,c2,c3,c4,c5,c6,c7,c8,c9,c10].drop 0).take (Tryz.prog.cellsOf 3))=some y0:=hF 0 _ rfl
 rw[cellsI] at h0
 obtain⟨a0,e0,_,f0⟩:=DataW.trod_int Tryz.underlying3 h0
 have h2:DataW.trod enc Tryz.prog w base sp held n 3 (([c0,c1,c2,c3,c4,c5,c6,c7,c8,c9,c10].drop 9).take (Tryz.prog.cellsOf 3))=some y2:=hF 2 _ rfl
 rw[cellsI] at h2
 obtain⟨a2,e2,_,f2⟩:=DataW.trod_int Tryz.underlying3 h2
 have h3:DataW.trod enc Tryz.prog w base sp held n 3 (([c0,c1,c2,c3,c4,c5,c6,c7,c8,c9,c10].drop 10).take (Tryz.prog.cellsOf 3))=some y3:=hF 3 _ rfl
 rw[cellsI] at h3
 obtain⟨a3,e3,_,f3⟩:=DataW.trod_int Tryz.underlying3 h3
 have h1:DataW.trod enc Tryz.prog w base sp held n 32 (([c0,c1,c2,c3,c4,c5,c6,c7,c8,c9,c10].drop 1).take (Tryz.prog.cellsOf 32))=some y1:=hF 1 _ rfl
 rw[cellsO] at h1
 obtain⟨r,e1,f1⟩:=zCo h1 rfl
 obtain⟨b0,b1,b2,b3,b4,b5,b6,b7⟩:=r
 simp at e0 e2 e3
 have e1' : [c1,c2,c3,c4,c5,c6,c7,c8]=[.int .i64 b0,.int .i64 b1,.int .i64 b2,.int .i64 b3,.int .i64 b4,.int .i64 b5,.int .i64 b6,.int .i64 b7]:=e1
 simp only[List.cons.injEq,and_true] at e1'
 obtain⟨rfl,rfl,rfl,rfl,rfl,rfl,rfl,rfl⟩:=e1'
 subst e0 e2 e3
 exact⟨⟨a0,⟨b0,b1,b2,b3,b4,b5,b6,b7⟩,a2,a3⟩,rfl,f1⟩
theorem zCj{r:Reach}{b0:Nat}{t e:TypeId}{v:Value}(ht:Tryz.prog.underlying t=some (.slice e))(hv:Value.okWide Tryz.prog w r b0 t v) :
  v=.slice none 0 0∨∃b o len cap,v=.slice (some ⟨b,o,none⟩) len cap∧len≤cap∧cap≤9223372036854775807∧b<w.heap.size:=by
 obtain⟨a,len,cap,rfl⟩:=okWide_slice ht hv
 simp only[Value.okWide,ht,Cell.okWide] at hv
 cases a with
 | none=>
  left
  cases len with
  | zero=>
   cases cap with
   | zero=>rfl
   | succ c=>simp[Cell.ok,ht] at hv
  | succ l=>simp[Cell.ok,ht] at hv
 | some a=>
  right
  simp only[Cell.ok,ht] at hv
  obtain⟨h1,h2,_,h4,row,cells,h5,_⟩:=hv
  obtain⟨b,o,s⟩:=a
  simp only at h4 h5
  subst h4
  refine⟨b,o,len,cap,rfl,h1,?_,?_⟩
  ·have:IntKind.i64.max=9223372036854775807:=rfl
   rw[this] at h2
   omega
  ·unfold World.shape? at h5
   split at h5
   ·rename_i hh
    exact(gzE.1 hh).1
   ·cases h5
theorem zEe{r:Reach}{b0:Nat}{v:Value}{d:DataW H}{ps:List MemPlace}(hv:Value.okWide Tryz.prog w r b0 22 v)(h:DataW.Trod enc Tryz.prog w base sp held 22 v d ps) :
  ∃zs:List Cm,CL w v zs:=by
 rcases zCj Tryz.underlying22 hv with rfl|⟨b,o,len,cap,rfl,hl,hm,hb⟩
 ·exact⟨[],.inl ⟨rfl,rfl⟩⟩
 obtain⟨fuel,hf⟩:=h
 rcases open_slice Tryz.underlying22 hf with ⟨hcs,_⟩|⟨a,len',cap',m,n,D,Pl,hcs,_,hl',_,hmm,_,hx⟩
 ·simp[Value.cells] at hcs
 simp[Value.cells] at hcs
 obtain⟨rfl,rfl,rfl⟩:=hcs
 have hlm:len≤m:=by rw[hmm];split <;>omega
 obtain⟨f,hf2⟩:=choose_lt (α:=Cm) (n:=len) (p:=fun i r=>(∀k v,(cmL r)[k]?=some v→w.cell? ⟨b,o+i*11+k,none⟩=some v)∧(Lit.int .i64 r.o.id).wf=true) (fun i hi=>by
  obtain⟨cs',h1,h2⟩:=hx i (by omega)
  rw[cellsC] at h1
  obtain⟨_,hlen,hcell⟩:=World.cells?_some h1
  obtain⟨r,rfl,hwf⟩:=zBT h2 hlen
  refine⟨r,fun k v hk=>?_,hwf⟩
  have hk6:k<11:=(List.getElem?_eq_some_iff.1 hk).1
  have:=hcell k hk6
  rw[hk,Addr.add_lit,Addr.add_lit] at this
  exact this)
 refine⟨(List.range len).map f,.inr ⟨b,o,cap,by simp,by simpa using hl,hm,hb,?_⟩⟩
 intro j hj
 have hj' : j<len:=by simpa using hj
 rw[getC _ _ hj]
 simp only[List.getElem_map,List.getElem_range]
 exact hf2 j hj'
end
theorem laidOut:laidOutB Tryz.prog=true:=by kernel_rfl
end flr
end Go.Proofs.YtifjhlgjgnnnpaaGreat
