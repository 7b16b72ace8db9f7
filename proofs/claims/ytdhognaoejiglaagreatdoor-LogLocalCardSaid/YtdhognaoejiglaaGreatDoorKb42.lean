import Derived.Test.YtdhognaoejiglaaGreatDoorKb41
namespace Go.Proofs.YtdhognaoejiglaaGreatDoor
open Lib (hid)
set_option maxRecDepth 100000
set_option maxHeartbeats 8000000
section
open Go.RowKit
theorem fy (w:World) {e:Nat} (he:e≠0):ax w (.iface 68 (.int .i64 e)) (e,-1):=.inr ⟨he,rfl,rfl⟩
def RD1 (w W:World) (vf vh vw:Value):Prop :=
 W.heap[w.heap.size]? = some (.cells #[vf,vh,vw] 47 (0,0))∧Below w.heap.size w W∧w.heap.size+1≤W.heap.size
theorem RD1.cells {w W:World} {vf vh vw:Value} (h:RD1 w W vf vh vw) :
 (W.cell? ⟨w.heap.size,0,none⟩=some vf∧W.cell? ⟨w.heap.size,1,none⟩=some vh∧W.cell? ⟨w.heap.size,2,none⟩=some vw)∧W.frozen? ⟨w.heap.size,0,none⟩=false∧W.frozen? ⟨w.heap.size,1,none⟩=false∧W.frozen? ⟨w.heap.size,2,none⟩=false:=by
 obtain ⟨h1,_⟩:=h;exact ⟨⟨cell_of_row _ _ 0 _ _ (0,0) h1,cell_of_row _ _ 1 _ _ (0,0) h1,cell_of_row _ _ 2 _ _ (0,0) h1⟩,Lib.frozen_of_heap h1 0,Lib.frozen_of_heap h1 1,Lib.frozen_of_heap h1 2⟩
theorem RD1.below {w W W2:World} {vf vh vw:Value} (h:RD1 w W vf vh vw) (hb:Below W.heap.size W W2):RD1 w W2 vf vh vw:=by
 obtain ⟨h1,h2,h3⟩:=h;exact ⟨(hb.block _ (by omega)).trans h1,h2.trans (hb.mono h2.size),Nat.le_trans h3 hb.size⟩
theorem RD1.put {w W:World} {vf vh vw uf uh uw v:Value} {o:Nat} (h:RD1 w W vf vh vw) (hs:(#[vf,vh,vw]:Array Value).setIfInBounds o v=#[uf,uh,uw]):RD1 w (W.setCell ⟨w.heap.size,o,none⟩ v) uf uh uw:=by
 obtain ⟨h1,h4,h5⟩:=h;exact ⟨by rw [heap_setCell_same _ _ _ _ _ _ h1,hs],h4.setCell (Nat.le_refl _) _,by simpa using h5⟩
theorem ax.cellB {w W:World} {vf vh vw v u:Value} {r:Nat×Int} {o:Nat} (h:ax W v r) (hr:RD1 w W vf vh vw) (hv:vf=.slice none 0 0):ax (W.setCell ⟨w.heap.size,o,none⟩ u) v r:=by
 rcases h with (h | ⟨h0,b,h1,h2,h3,h4⟩) | h
 ·exact .inl (.inl h)
 ·have c0:=hr.cells.1.1;have hne:w.heap.size≠b:=fun e=>by rw [←e,c0,hv] at h3;cases h3
  have hcell:∀ j,(W.setCell ⟨w.heap.size,o,none⟩ u).cell? ⟨b,j,none⟩=W.cell? ⟨b,j,none⟩:=fun j=>by
   unfold World.cell?;rw [heap_setCell_other _ _ _ _ (fun e=>hne e.symm)]
  exact .inl (.inr ⟨h0,b,h1,by simpa using h2,by rw [hcell];exact h3,by rw [hcell];exact h4⟩)
 ·exact .inr h
theorem qo (s:ByteArray) (x:Nat) (pl:Int) (w:World) (hs:s.size≤maxLen) (hg:errT w) (hu:unbF s.data.toList=.inl (x,pl)) :
 Calls Tryz.prog 121 #[.string s] w fun e w'=>∃ t u,e=.returned (.tuple #[.agg #[.slice none 0 0,.slice none 0 0,.slice none 0 0],.iface t u])∧ax w' (.iface t u) (x,pl)∧Below w.heap.size w w':=by
 refine (qn s w hs hg).mono ?_;rintro e w' ⟨hb,⟨x',pl',err,hx,hx0,rfl,ha⟩ | ⟨f',h',l',vf,vh,vw,hx,_⟩⟩
 ·rw [hu] at hx;injection hx with hx
  injection hx with h1 h2
  subst h1 h2;obtain ⟨t,u,rfl⟩:=ha.iface hx0;exact ⟨t,u,rfl,ha,hb⟩
 ·rw [hu] at hx;cases hx
theorem qp (s:ByteArray) (f h:List Ent) (l:List Wr) (w:World) (hs:s.size≤maxLen) (hg:errT w) (hu:unbF s.data.toList=.inr (f,h,l)) :
 Calls Tryz.prog 121 #[.string s] w fun e w'=>∃ a1 c1 a2 c2 a3 c3,e=.returned (.tuple #[.agg #[.slice a1 f.length c1,.slice a2 h.length c2,.slice a3 l.length c3],.nilIface])∧bj w' w.heap.size (.slice a1 f.length c1) (.slice a2 h.length c2) (.slice a3 l.length c3) f h l∧Below w.heap.size w w':=by
 refine (qn s w hs hg).mono ?_;rintro e w' ⟨hb,⟨x,pl,err,hx,_⟩ | ⟨f',h',l',vf,vh,vw,hx,rfl,ho⟩⟩
 ·rw [hu] at hx;cases hx
 ·rw [hu] at hx;injection hx with hx
  injection hx with h1 h2
  injection h2 with h2 h3
  subst h1 h2 h3;obtain ⟨a1,c1,rfl,_⟩:=ho.1.is.form;obtain ⟨a2,c2,rfl,_⟩:=ho.2.1.is.form;obtain ⟨a3,c3,rfl,_⟩:=ho.2.2.1.is.form;exact ⟨a1,c1,a2,c2,a3,c3,rfl,ho,hb⟩
end
section
open Go.RowKit
def UO (w:World) (B:Nat) (l:List UInt8) (e:Nat) (vf vh vw:Value) (f h:List Ent) (W:List Wr) (wr:World):Prop :=
 Ro wr (w.heap.size+1) l e∧RD1 w wr (.slice none 0 0) (.slice none 0 0) (.slice none 0 0)∧wr.heap[B]? = some (.cells #[vf,vh,vw] 47 (0,0))∧w.heap.size+2≤B∧ag wr (w.heap.size+2) vf f∧ag wr (w.heap.size+2) vh h∧ak wr (w.heap.size+2) vw W
theorem RD1.kept {w W W2:World} {vf vh vw:Value} {row:Option Nat} (h:RD1 w W vf vh vw) (hg:W.grownBy W2 row) (hr:∀ k,row=some k→w.heap.size+1≤k):RD1 w W2 vf vh vw:=by
 obtain ⟨h1,h2,h3⟩:=h;exact ⟨(hg.block _ (by omega) (fun e=>by have:=hr _ e.symm;omega)).trans h1,h2.grown hg (by omega) (fun k hk=>by have:=hr k hk;omega),Nat.le_trans h3 hg.size⟩
theorem jh {W:World} {B X k n:Nat} {e t:TypeId} {v:Value} {xs:List Value} {cs:Array Value} {fr:Nat×Nat} (ho:W.ownsRow B e k v n xs) (hX:W.heap[X]? = some (.cells cs t fr)) (hne:e≠t):v.ownBlock≠some X:=by
 rcases ho.2 with ⟨rfl,_⟩ | ⟨g,cap,cur,rfl,_,hh,_⟩
 ·simp [Value.ownBlock]
 ·intro e';have:g=X:=by simpa [Value.ownBlock] using e'
  subst this;rw [hX] at hh;injection hh with hh
  injection hh with _ ht
  exact hne ht.symm
theorem hY {W W2:World} {B k n:Nat} {e:TypeId} {v:Value} {xs:List Value} {row:Option Nat} (ho:W.ownsRow B e k v n xs) (hg:W.grownBy W2 row) (hne:∀ j,row=some j→v.ownBlock≠some j):W2.ownsRow B e k v n xs :=
 World.ownsRow.kept ho hg (by
  cases hv:v.ownBlock with
  | none=>exact .inl rfl
  | some g=>exact .inr (fun e=>hne g e.symm hv))
section
variable {w wr w':World} {B:Nat} {l l':List UInt8} {e e':Nat} {vf vh vw:Value} {f h:List Ent} {W W':List Wr}
theorem UO.get (u:UO w B l e vf vh vw f h W wr) (hr:Ro w' (w.heap.size+1) l' e') (hg:wr.grownBy w' (some (w.heap.size+1))):UO w B l' e' vf vh vw f h W w':=by
 obtain ⟨u1,u2,u3,u4,u5,u6,u7⟩:=u;have hb:=(Array.getElem?_eq_some_iff.1 u3).1;exact ⟨hr,u2.kept hg (fun k hk=>by injection hk with hk;omega),(hg.block _ hb (by simp;omega)).trans u3,u4,gZ u5 (by omega) hg,gZ u6 (by omega) hg,gZ u7 (by omega) hg⟩
theorem UO.below (u:UO w B l e vf vh vw f h W wr) (hb:Below wr.heap.size wr w'):UO w B l e vf vh vw f h W w':=by
 obtain ⟨u1,u2,u3,u4,u5,u6,u7⟩:=u;have hB:=(Array.getElem?_eq_some_iff.1 u3).1;exact ⟨u1.below hb,u2.below hb,(hb.block _ hB).trans u3,u4,hY u5 (gO hb) (by simp),hY u6 (gO hb) (by simp),hY u7 (gO hb) (by simp)⟩
theorem UO.alloc (u:UO w B l e vf vh vw f h W wr) (o:Obj):UO w B l e vf vh vw f h W (wr.alloc o):=u.below ((Below.refl _ _).alloc (Nat.le_refl _) o)
theorem UO.drew (u:UO w B l e vf vh vw f h W wr):UO w B l e vf vh vw f h W wr.drew:=u.below (Below.refl _ _).drew
theorem UO.writes {v:Value} (u:UO w B l e vf vh vw f h W wr) (hn:ak w' (w.heap.size+2) v W') (hg:wr.grownBy w' vw.ownBlock):UO w B l e vf vh v f h W' (w'.setCell ⟨B,2,none⟩ v):=by
 obtain ⟨u1,u2,u3,u4,u5,u6,u7⟩:=u;have hB:=(Array.getElem?_eq_some_iff.1 u3).1;have hf:∀ j,vw.ownBlock=some j→w.heap.size+2≤j:=fun j hj=>(World.ownsRow.lt u7 j hj).1
 have hnB:=jh u7 u3 (by decide);have e5:=World.ownsRow.kept u5 hg (eJ u5 u7 (by decide));have e6:=World.ownsRow.kept u6 hg (eJ u6 u7 (by decide));have e3:w'.heap[B]? = some (.cells #[vf,vh,vw] 47 (0,0)):=(hg.block _ hB (fun e=>hnB e.symm)).trans u3;have hs:=gQ w' B 2 v;refine ⟨(u1.kept hg (fun e=>by have:=hf _ e;omega)).kept hs (by simp;omega),(u2.kept hg (fun k hk=>by have:=hf k hk;omega)).kept hs (fun k hk=>by injection hk with hk;omega),?_,u4,?_,?_,?_⟩
 ·rw [heap_setCell_same _ _ _ _ _ _ e3];rfl
 ·exact hY e5 hs (fun j hj=>by injection hj with hj;rw [←hj];exact jh e5 e3 (by decide))
 ·exact hY e6 hs (fun j hj=>by injection hj with hj;rw [←hj];exact jh e6 e3 (by decide))
 ·exact hY hn hs (fun j hj=>by injection hj with hj;rw [←hj];exact jh hn e3 (by decide))
theorem UO.cells (u:UO w B l e vf vh vw f h W wr):(wr.cell? ⟨B,0,none⟩=some vf∧wr.cell? ⟨B,1,none⟩=some vh∧wr.cell? ⟨B,2,none⟩=some vw)∧wr.frozen? ⟨B,2,none⟩=false :=
 ⟨⟨cell_of_row _ _ 0 _ _ _ u.2.2.1,cell_of_row _ _ 1 _ _ _ u.2.2.1,cell_of_row _ _ 2 _ _ _ u.2.2.1⟩,Lib.frozen_of_heap u.2.2.1 2⟩
end
theorem Du {w wr w':World} {B:Nat} {l:List UInt8} {e:Nat} {vf vh vw:Value} {f h:List Ent} {W:List Wr} (u:UO w B l e vf vh vw f h W wr) (hg:wr.grownBy w' vw.ownBlock):(∃ x,w'.cell? ⟨B,2,none⟩=some x)∧w'.frozen? ⟨B,2,none⟩=false:=by
 have hB:=(Array.getElem?_eq_some_iff.1 u.2.2.1).1;have e3:=(hg.block _ hB (fun e=>jh u.2.2.2.2.2.2 u.2.2.1 (by decide) e.symm)).trans u.2.2.1;exact ⟨⟨_,cell_of_row _ _ 2 _ _ _ e3⟩,Lib.frozen_of_heap e3 2⟩
theorem FV {x:Wr} (h:wE x=0):WrOk x:=(cL h).2.2.2.2.2.2.2.2.2
def ww (w:World) (s:List UInt8) (e:Ending) (w':World):Prop :=
 Below w.heap.size w w'∧((∃ x,unO s=.inl x∧x≠0∧e=.returned (.tuple #[.agg #[.slice none 0 0,.slice none 0 0,.slice none 0 0],.iface 68 (.int .i64 x)])) ∨
  ∃ f h l vf vh vw,unO s=.inr (f,h,l)∧e=.returned (.tuple #[.agg #[vf,vh,vw],.nilIface])∧bj w' (w.heap.size+1) vf vh vw f h l)
theorem tc (s:ByteArray) (w:World) (hs:s.size≤1000000) (hg:errT w) :
 Calls Tryz.prog 123 #[.string s] w (ww w s.data.toList):=by
 obtain ⟨f,l1,e1,h1⟩:∃ f l e,vecS s.data.toList 0=(f,l,e):=⟨_,_,_,rfl⟩;obtain ⟨h,l2,e2,h2⟩:∃ f l e,vecS l1 e1=(f,l,e):=⟨_,_,_,rfl⟩;obtain ⟨n,l3,e3,h3⟩:∃ f l e,numS 60 l2 e2=(f,l,e):=⟨_,_,_,rfl⟩;obtain ⟨WW,l4,e4,h4⟩:∃ f l e,wrsS n l3 e3 []=(f,l,e):=⟨_,_,_,rfl⟩;have HP:=hid (F5 h1 h2 h3 h4);have hn60:n≤60:=by have:=nU (most:=60) (by decide) l2 e2;rw [h3] at this;omega
 have HF16:Hid (f.length≤16):=hid (by have:=vv s.data.toList 0;rw [h1] at this;exact this);have HH16:Hid (h.length≤16):=hid (by have:=vv l1 e1;rw [h2] at this;exact this);have HW60:Hid (WW.length=n):=hid (by have:=GK n l3 e3 [];rw [h4] at this;simpa using this);have HWE:Hid (e4=0→∀ x∈WW,wE x=0):=hid (fun he=>by have:=GL n l3 e3 [] (by simp) (by rw [h4];exact he);rw [h4] at this;exact this);have H1:=hid h1;have H2:=hid h2;have H3:=hid h3;have H4:=hid h4;have HEG:Hid (∀ w',Below w.heap.size w w'→errT w'):=hid (fun w' hb=>hg.below hb);obtain ⟨W0,hW0⟩:∃ W0,(w.alloc (.cells #[.slice none 0 0,.slice none 0 0,.slice none 0 0] 47)).alloc (.cells #[.string s,.nilIface] 218)=W0:=⟨_,rfl⟩;have HR0:Hid (Ro W0 (w.heap.size+1) s.data.toList 0):=hid (by
  refine ⟨s,rfl,hs,?_⟩;have h:=heap_alloc_new (w.alloc (.cells #[.slice none 0 0,.slice none 0 0,.slice none 0 0] 47)) (.cells #[.string s,.nilIface] 218);rw [World.size_alloc,hW0] at h;exact h)
 have HD0:Hid (RD1 w W0 (.slice none 0 0) (.slice none 0 0) (.slice none 0 0)):=hid (by
  rw [←hW0];exact RD1.below ⟨heap_alloc_new w _,(Below.refl _ _).alloc (Nat.le_refl _) _,by simp⟩ ((Below.refl _ _).alloc (Nat.le_refl _) _))
 have HZ0:Hid (W0.heap.size=w.heap.size+2):=hid (by rw [←hW0];simp);clear h1 h2 h3 h4 hg;go_enter Tryz.func123,Tryz.ntmps123
 go_wp2_with fail
 refine (sL (w.heap.size+1) s.data.toList l1 f 0 e1 W0 HR0.out H1.out).mono ?_;rintro r w2 ⟨v,rfl,ho2,hr2,hg2⟩;obtain ⟨af,cf,rfl,_⟩:=ho2.is.form;obtain ⟨nf,hnf⟩:∃ nf,nf=f.length:=⟨_,rfl⟩;rw [←hnf] at ho2 ⊢;have HNF:=hid hnf;have HR2:=hid hr2;have HO2:Hid (ag w2 (w.heap.size+2) (.slice af nf cf) f):=hid (by rw [←HZ0.out];exact ho2);have HD2:=hid (HD0.out.kept hg2 (fun k hk=>by injection hk with hk;omega));have HZ2:Hid (w.heap.size+2≤w2.heap.size):=hid (by have:=hg2.size;have:=HZ0.out;omega);clear ho2 hr2 hg2 hnf;go_wp2_with fail
 refine (sL (w.heap.size+1) l1 l2 h e1 e2 w2 HR2.out H2.out).mono ?_;rintro r w3 ⟨v,rfl,ho3,hr3,hg3⟩;obtain ⟨ah,ch,rfl,_⟩:=ho3.is.form;obtain ⟨nh,hnh⟩:∃ nh,nh=h.length:=⟨_,rfl⟩;rw [←hnh] at ho3 ⊢;have HNH:=hid hnh;have HU3:Hid (UO w w3.heap.size l2 e2 (.slice af nf cf) (.slice ah nh ch) (.slice none 0 0) f h [] (w3.alloc (.cells #[.slice af nf cf,.slice ah nh ch,.slice none 0 0] 47))):=hid (by
  have hb:Below w3.heap.size w3 (w3.alloc (.cells #[.slice af nf cf,.slice ah nh ch,.slice none 0 0] 47)):=(Below.refl _ _).alloc (Nat.le_refl _) _;refine ⟨hr3.below hb,(HD2.out.kept hg3 (fun k hk=>by injection hk with hk;omega)).below hb,heap_alloc_new w3 _,by have:=hg3.size;have:=HZ2.out;omega,(gZ HO2.out (by omega) hg3).alloc _,(ho3.mono HZ2.out).alloc _,eK _ _⟩)
 clear ho3 hr3 hg3 hnh;obtain ⟨B,hB⟩:∃ B,w3.heap.size=B:=⟨_,rfl⟩;rw [hB] at HU3;go_wp2_with fail
 generalize w3.alloc (.cells #[.slice af nf cf,.slice ah nh ch,.slice none 0 0] 47)=w4 at HU3 ⊢;refine (gX (w.heap.size+1) 60 l2 l3 e2 e3 n w4 HU3.out.1 (by decide) (by decide) H3.out).mono ?_;rintro r w5 ⟨rfl,hr5,hg5⟩;have HU5:=hid (HU3.out.get hr5 hg5);clear hr5 hg5 HR2 HO2 HD2 HR0 HD0;go_wp2
 go_loopw [17] (fun i wr=>∃ (j:Nat) (lj:List UInt8) (ej:Nat) (vw:Value) (acc:List Wr),j≤n∧i=.int .i64 j∧acc.length=j∧wrsS (n-j) lj ej acc=(WW,l4,e4)∧UO w B lj ej (.slice af nf cf) (.slice ah nh ch) vw f h acc wr) (fun i _=>n-(intOf i).toNat)
 case atStart=>exact ⟨0,l3,e3,.slice none 0 0,[],Nat.zero_le _,rfl,rfl,H4.out,HU5.out⟩
 case round =>
  obtain ⟨j,lj,ej,vw,acc,hj,rfl,hacc,hent,us⟩:=hrel;have HUS:=hid us;have HAC:=hid hacc;obtain ⟨aw,cw,rfl,_⟩:=us.2.2.2.2.2.2.is.form;obtain ⟨na,hna⟩:∃ na,na=acc.length:=⟨_,rfl⟩;rw [←hna] at HUS;have HNA:=hid hna;clear us hacc hna HU3 HU5;obtain ⟨⟨b0,b1,b2⟩,zb⟩:=HUS.out.cells;by_cases hlt:j<n
  ·obtain ⟨q,hq⟩:∃ q,n-j=q+1:=⟨n-j-1,by omega⟩;rw [hq] at hent;obtain ⟨⟨ty,ry,ky,keyy,vy,ny⟩,l6,e6,h6⟩:∃ y l e,wrS lj ej=(y,l,e):=⟨_,_,_,rfl⟩;rw [wrsS,h6] at hent;simp only at hent
   have HENT:Hid (wrsS (n-(j+1)) l6 e6 (acc++[⟨ty,ry,ky,keyy,vy,ny⟩])=(WW,l4,e4)):=hid (by rw [show n-(j+1)=q by omega];exact hent);have H6:=hid h6;have HUD:=hid HUS.out.drew;clear h6 hent hq;go_wp2
   go_region_law (first
    | (go_simp;go_at_call 162;(refine (Cc (w.heap.size+1) lj l6 ty ry ky keyy vy ny ej e6 wr.drew HUD.out.1 H6.out).mono ?_;rintro r w7 ⟨rfl,hr7,hg7⟩;have HU7:=hid (HUD.out.get hr7 hg7);have HU8:=hid (HU7.out.alloc (.cells #[.int .i64 ty,.int .i64 ry,.int .i64 ky,.string keyy,.string vy,.int .i64 ny] 38));have HBK:Hid (cU (w7.alloc (.cells #[.int .i64 ty,.int .i64 ry,.int .i64 ky,.string keyy,.string vy,.int .i64 ny] 38)) w7.heap.size ⟨ty,ry,ky,keyy,vy,ny⟩):=hid (heap_alloc_new w7 _);clear hr7 hg7;obtain ⟨⟨_,_,b2⟩,_⟩:=HU7.out.cells;obtain ⟨⟨_,_,b2⟩,_⟩:=HU8.out.cells))
    | (refine Eg _ rfl _ _ rfl (w.heap.size+2) _ acc rfl HU8.out.2.2.2.2.2.2 w7.heap.size 1 rfl ⟨ty,ry,ky,keyy,vy,ny⟩ HBK.out (by have:=HAC.out;omega) (by have:=HU7.out.2.1.2.1.size;have:=(Array.getElem?_eq_some_iff.1 HU7.out.2.2.1).1;have:=HU7.out.2.2.2.1;simp;omega) ?_;intro g cap w9 ho9 hg9;have HU9:=hid (HU8.out.writes ho9 hg9);have b9:=Du HU8.out hg9;obtain ⟨⟨_,b90⟩,b91⟩:=b9))
   all_goals
    clear hg9 b90 b91;go_wp2;go_roundw
    case rel=>exact ⟨j+1,l6,e6,_,acc++[⟨ty,ry,ky,keyy,vy,ny⟩],by omega,by go_num,by rw [List.length_append,HAC.out];rfl,HENT.out,HU9.out⟩
    case measure=>simp [intOf];omega
  ·obtain rfl:j=n:=by omega
   rw [Nat.sub_self,wrsS] at hent;injection hent with i1 hent
   injection hent with i2 i3
   subst i1 i2 i3;obtain ⟨T4,hT4,hT4s,hrow4⟩:=HUS.out.1;obtain ⟨c0,c1,_,_,_⟩:=hrow4.cells;have HT4:=hid hT4;obtain ⟨⟨a0,a1,a2⟩,za0,za1,za2⟩:=HUS.out.2.1.cells;clear hrow4 hT4 hT4s;by_cases he:ej=0
   rotate_left
   ·have HRES:Hid (unO s.data.toList=.inl ej):=hid (by rw [HP.out,if_pos he]);rw [iK he] at c1;go_wp2;go_region
    have HM:=hid ((((HUS.out.2.1.put (o:=0) (v:=.slice none 0 0) rfl).put (o:=1) (v:=.slice none 0 0) rfl).put (o:=2) (v:=.slice none 0 0) rfl).below (Below.refl _ _).drew);go_wp2;obtain ⟨⟨q0,q1,q2⟩,_⟩:=HM.out.cells;refine bodyPost_ret (v:=.tuple #[.agg #[.slice none 0 0,.slice none 0 0,.slice none 0 0],.iface 68 (.int .i64 ej)]) (by simp [results,Tryz.results123,go_sem,q0,q1,q2]) rfl ?_;exact ⟨HM.out.2.1,.inl ⟨ej,HRES.out,he,rfl⟩⟩
   ·subst he;rw [eY] at c1;by_cases hl:0<T4.size
    ·have hne:=jV hl;have hne2:T4.toList.isEmpty=false:=by
      rw [bne_iff_ne] at hne;cases hT:T4.toList with
      | nil=>exact absurd hT hne
      | cons a b=>rfl
     have hne3:(T4.toList == [])=false:=by rw [bne] at hne;simpa using hne
     have HRES:Hid (unO s.data.toList=.inl 3):=hid (by
      rw [HP.out,if_neg (show ¬ (0:Nat)≠0 by simp),if_pos];intro e;have h2:=aj T4;rw [HT4.out,e,List.length_nil] at h2;omega)
     have HM:=hid (((HUS.out.2.1.put (o:=0) (v:=.slice none 0 0) rfl).put (o:=1) (v:=.slice none 0 0) rfl).put (o:=2) (v:=.slice none 0 0) rfl);go_wp2;obtain ⟨⟨q0,q1,q2⟩,_⟩:=HM.out.cells;refine bodyPost_ret (v:=.tuple #[.agg #[.slice none 0 0,.slice none 0 0,.slice none 0 0],.iface 68 (.int .i64 3)]) (by simp [results,Tryz.results123,go_sem,q0,q1,q2]) rfl ?_;exact ⟨HM.out.2.1,.inl ⟨3,HRES.out,by decide,rfl⟩⟩
    ·obtain rfl:=iJ hl;have hlj:lj=[]:=by rw [←HT4.out]
     have HP2:Hid (unO s.data.toList=if (batF f h acc).1≠0 then .inl (batF f h acc).1 else .inr (f,h,acc)):=hid (by rw [HP.out,if_neg (show ¬ (0:Nat)≠0 by simp),if_neg (by rw [hlj];simp)]);obtain ⟨be,bp,hbf⟩:∃ be bp,batF f h acc=(be,bp):=⟨_,_,rfl⟩;have HWO:Hid (∀ t∈acc,WrOk t):=hid (fun t ht=>FV (HWE.out rfl t ht));have HBT:Hid (aC wr (.slice af nf cf) (.slice ah nh ch) (.slice aw na cw) f h acc):=hid ⟨HUS.out.2.2.2.2.1.is,HUS.out.2.2.2.2.2.1.is,HUS.out.2.2.2.2.2.2.is,by have:=HF16.out;omega,by have:=HH16.out;omega,by have:=HAC.out;omega,HWO.out⟩;have HBF:=hid hbf;rw [hbf] at HP2;clear hl hlj hbf;go_wp2_with fail
     refine (iC _ _ _ f h acc be bp wr HBT.out (HEG.out _ HUS.out.2.1.2.1) HBF.out).mono ?_;rintro r w8 ⟨err,rfl,hat,hb8⟩;have HU8:=hid (HUS.out.below hb8);clear hb8 b0 b1 b2 zb a0 a1 a2 za0 za1 za2 c0 c1;obtain ⟨⟨b0,b1,b2⟩,_⟩:=HU8.out.cells;obtain ⟨⟨a0,a1,a2⟩,za0,za1,za2⟩:=HU8.out.2.1.cells;by_cases hbe:be=0
     ·subst hbe;obtain rfl:=hat.nil rfl;have HRES:Hid (unO s.data.toList=.inr (f,h,acc)):=hid (by rw [HP2.out,if_neg (by simp)]);have HM:=hid (((HU8.out.2.1.put (o:=0) (v:=.slice af nf cf) rfl).put (o:=1) (v:=.slice ah nh ch) rfl).put (o:=2) (v:=.slice aw na cw) rfl);have HBO:Hid (bj (((w8.setCell ⟨w.heap.size,0,none⟩ (.slice af nf cf)).setCell ⟨w.heap.size,1,none⟩ (.slice ah nh ch)).setCell ⟨w.heap.size,2,none⟩ (.slice aw na cw)) (w.heap.size+1) (.slice af nf cf) (.slice ah nh ch) (.slice aw na cw) f h acc):=hid (by
       have h0:bj w8 (w.heap.size+1) (.slice af nf cf) (.slice ah nh ch) (.slice aw na cw) f h acc:=⟨HU8.out.2.2.2.2.1.mono (by omega),HU8.out.2.2.2.2.2.1.mono (by omega),HU8.out.2.2.2.2.2.2.mono (by omega),HF16.out,HH16.out,by have:=HAC.out;omega,HWO.out⟩;exact ((h0.keep (gQ _ _ _ _) (fun k hk=>by injection hk with hk;omega)).keep (gQ _ _ _ _) (fun k hk=>by injection hk with hk;omega)).keep (gQ _ _ _ _) (fun k hk=>by injection hk with hk;omega))
      clear hat;go_wp2;obtain ⟨⟨q0,q1,q2⟩,_⟩:=HM.out.cells;refine bodyPost_ret (v:=.tuple #[.agg #[.slice af nf cf,.slice ah nh ch,.slice aw na cw],.nilIface]) (by simp [results,Tryz.results123,go_sem,q0,q1,q2]) rfl ?_;exact ⟨HM.out.2.1,.inr ⟨f,h,acc,_,_,_,HRES.out,rfl,HBO.out⟩⟩
     ·have HRES:Hid (unO s.data.toList=.inl be):=hid (by rw [HP2.out,if_pos hbe]);have HIE:=hid (hat.isErr hbe);obtain ⟨t,u,rfl⟩:=hat.iface hbe;clear hat;go_wp2_with fail
      refine (dM _ (be:Int) w8 (HEG.out _ HU8.out.2.1.2.1) HIE.out).mono ?_;rintro r w9 ⟨rfl,hb9⟩;have HU9:=hid (HU8.out.2.1.below hb9);clear hb9 b0 b1 b2 a0 a1 a2 za0 za1 za2;obtain ⟨⟨a0,a1,a2⟩,za0,za1,za2⟩:=HU9.out.cells;have HM:=hid (((HU9.out.put (o:=0) (v:=.slice none 0 0) rfl).put (o:=1) (v:=.slice none 0 0) rfl).put (o:=2) (v:=.slice none 0 0) rfl);go_wp2;obtain ⟨⟨q0,q1,q2⟩,_⟩:=HM.out.cells;refine bodyPost_ret (v:=.tuple #[.agg #[.slice none 0 0,.slice none 0 0,.slice none 0 0],.iface 68 (.int .i64 be)]) (by simp [results,Tryz.results123,go_sem,q0,q1,q2]) rfl ?_;exact ⟨HM.out.2.1,.inl ⟨be,HRES.out,hbe,rfl⟩⟩
end
section
open Go.RowKit
def pF (w:World) (s:List UInt8) (e:Ending) (w':World):Prop :=
 Below w.heap.size w w'∧((∃ x pl err,unfF s=.inl (x,pl)∧x≠0∧e=.returned (.tuple #[.agg #[.slice none 0 0,.slice none 0 0,.slice none 0 0],err])∧ax w' err (x,pl)) ∨
  ∃ f h l a1 c1 a2 c2 a3 c3,unfF s=.inr (f,h,l)∧e=.returned (.tuple #[.agg #[.slice a1 f.length c1,.slice a2 h.length c2,.slice a3 l.length c3],.nilIface])∧bj w' (w.heap.size+1) (.slice a1 f.length c1) (.slice a2 h.length c2) (.slice a3 l.length c3) f h l)
theorem zw (s:ByteArray) (w:World) (hs:s.size≤400000) (hg:errT w) :
 Calls Tryz.prog 95 #[.string s] w (pF w s.data.toList):=by
 have hsz:s.size≤140737488351232:=by omega
 have HW:Hid (RD1 w (w.alloc (.cells #[.slice none 0 0,.slice none 0 0,.slice none 0 0] 47)) (.slice none 0 0) (.slice none 0 0) (.slice none 0 0)):=hid ⟨heap_alloc_new w _,(Below.refl _ _).alloc (Nat.le_refl _) _,by simp⟩;have HG:=hid (hg.alloc (.cells #[.slice none 0 0,.slice none 0 0,.slice none 0 0] 47));obtain ⟨v,i,e,ho⟩:∃ v i e,opnF s.data.toList=(v,i,e):=⟨_,_,_,rfl⟩;obtain ⟨J,hJ⟩:∃ J:ByteArray,i=J.data.toList:=⟨⟨i.toArray⟩,by simp⟩;subst hJ;have HO:=hid ho;clear hg;by_cases he:e=0
 ·subst he;have hp:=t7 ho;rw [←aj,←aj] at hp;by_cases hv:v=3
  ·subst hv;obtain ⟨b,e,hp2⟩:∃ b e,unpF J.data.toList=(b,e):=⟨_,_,rfl⟩;obtain ⟨B,hB⟩:∃ B:ByteArray,b=B.data.toList:=⟨⟨b.toArray⟩,by simp⟩;subst hB;have HUP:=hid hp2;have HPK:Hid (∀ w',errT w'→Calls Tryz.prog 120 #[.string J] w' fun r w2=>r=.returned (.tuple #[.string B,errC e])∧Below w'.heap.size w' w2):=hid (fun w' hg=>by
    have h1:=FE J w' hp.1 (by omega) hg;rw [hp2] at h1;unfold unpV at h1;simp only [bW] at h1
    exact h1)
   by_cases he:e=0
   ·subst he;have HBM:Hid (B.size≤maxLen):=hid (by have:=Ft hp2;rw [←aj] at this;unfold maxLen;omega);clear ho hp hp2;rcases hub:unbF B.data.toList with ⟨x,pl⟩ | ⟨f,h,l⟩
    ·have HUF:Hid (unfF s.data.toList=.inl (x,pl)):=hid (Fm HO.out HUP.out hub);have hx0:=uX hub;have HRD:=hid (fun w' hg=>qo B x pl w' HBM.out hg hub);clear hub;go_enter Tryz.func95,Tryz.ntmps95
     go_wp2_with fail
     generalize w.alloc (.cells #[.slice none 0 0,.slice none 0 0,.slice none 0 0] 47)=W at HW HG ⊢;refine (g9 s J 3 0 W hsz HO.out).mono ?_;rintro r w1 ⟨rfl,hb⟩;have H1:=hid (HW.out.below hb);have HG1:=hid (HG.out.below hb);clear hb;rw [bB];go_wp2_with fail
     refine (HPK.out w1 HG1.out).mono ?_;rintro r w2 ⟨rfl,hb⟩;have H2:=hid (H1.out.below hb);have HG2:=hid (HG1.out.below hb);clear hb;rw [bB];go_wp2_with fail
     refine (HRD.out w2 HG2.out).mono ?_;rintro r w3 ⟨t,u,rfl,hae,hb⟩;have hb2:Below w2.heap.size w2 (w3.alloc (.cells #[.slice none 0 0,.slice none 0 0,.slice none 0 0] 47)):=hb.alloc hb.size _;have H3:=hid (H2.out.below hb2);have HA3:=hid (hae.below (w':=w3.alloc (.cells #[.slice none 0 0,.slice none 0 0,.slice none 0 0] 47)) ((Below.refl _ _).alloc (Nat.le_refl _) _));clear hb hb2 hae;obtain ⟨⟨c0,c1,c2⟩,z0,z1,z2⟩:=H3.out.cells;have HM:=hid (((H3.out.put (o:=0) (v:=.slice none 0 0) rfl).put (o:=1) (v:=.slice none 0 0) rfl).put (o:=2) (v:=.slice none 0 0) rfl);have HAE:=hid (((HA3.out.cellB (o:=0) (u:=.slice none 0 0) H3.out rfl).cellB (o:=1) (u:=.slice none 0 0) (H3.out.put (o:=0) (v:=.slice none 0 0) rfl) rfl).cellB (o:=2) (u:=.slice none 0 0) ((H3.out.put (o:=0) (v:=.slice none 0 0) rfl).put (o:=1) (v:=.slice none 0 0) rfl) rfl);go_wp2;generalize (((w3.alloc (.cells #[.slice none 0 0,.slice none 0 0,.slice none 0 0] 47)).setCell ⟨w.heap.size,0,none⟩ (.slice none 0 0)).setCell ⟨w.heap.size,1,none⟩ (.slice none 0 0)).setCell ⟨w.heap.size,2,none⟩ (.slice none 0 0)=WZ at HM HAE ⊢;obtain ⟨⟨q0,q1,q2⟩,_⟩:=HM.out.cells;refine bodyPost_ret (v:=.tuple #[.agg #[.slice none 0 0,.slice none 0 0,.slice none 0 0],.iface t u]) (by simp [results,Tryz.results95,go_sem,q0,q1,q2]) rfl ?_
     exact ⟨HM.out.2.1,.inl ⟨_,_,_,HUF.out,hx0,rfl,HAE.out⟩⟩
    ·obtain ⟨hfr,_,_,_⟩:=zy hub;obtain ⟨U,hU⟩:∃ U:ByteArray,frmL B.data.toList=U.data.toList:=⟨⟨(frmL B.data.toList).toArray⟩,by simp⟩;rw [hU] at hfr;have HFR:=hid hfr;have HUB:=hid hub;have HRD:=hid (fun w' hg=>qp B f h l w' HBM.out hg hub);have HQQ:Hid (∀ a1 c1 a2 c2 a3 c3 W',Below w.heap.size w W'→unfF s.data.toList=.inr (f,h,l)→bj W' (w.heap.size+1) (.slice a1 f.length c1) (.slice a2 h.length c2) (.slice a3 l.length c3) f h l→pF w s.data.toList (.returned (.tuple #[.agg #[.slice a1 f.length c1,.slice a2 h.length c2,.slice a3 l.length c3],.nilIface])) W'):=hid (fun a1 c1 a2 c2 a3 c3 W' h1 h2 h3=>⟨h1,.inr ⟨f,h,l,a1,c1,a2,c2,a3,c3,h2,rfl,h3⟩⟩);clear hfr hub;generalize f.length=nf at HRD HQQ;generalize h.length=nh at HRD HQQ;generalize l.length=nl at HRD HQQ;go_enter Tryz.func95,Tryz.ntmps95
     go_wp2_with fail
     generalize w.alloc (.cells #[.slice none 0 0,.slice none 0 0,.slice none 0 0] 47)=W at HW HG ⊢;refine (g9 s J 3 0 W hsz HO.out).mono ?_;rintro r w1 ⟨rfl,hb⟩;have H1:=hid (HW.out.below hb);have HG1:=hid (HG.out.below hb);clear hb;rw [bB];go_wp2_with fail
     refine (HPK.out w1 HG1.out).mono ?_;rintro r w2 ⟨rfl,hb⟩;have H2:=hid (H1.out.below hb);have HG2:=hid (HG1.out.below hb);clear hb;rw [bB];go_wp2_with fail
     refine (HRD.out w2 HG2.out).mono ?_;rintro r w3 ⟨a1,c1,a2,c2,a3,c3,rfl,ho3,hb⟩;have hb2:Below w2.heap.size w2 (w3.alloc (.cells #[.slice a1 nf c1,.slice a2 nh c2,.slice a3 nl c3] 47)):=hb.alloc hb.size _;have HBK:Hid (w.heap.size+1≤w2.heap.size):=hid H2.out.2.2;have H3:=hid (H2.out.below hb2);have HG3:=hid (HG2.out.below hb2);have HO3:=hid (ho3.keep (gO (w':=w3.alloc (.cells #[.slice a1 nf c1,.slice a2 nh c2,.slice a3 nl c3] 47)) ((Below.refl _ _).alloc (Nat.le_refl _) _)) (fun k hk=>by cases hk));have HA3:=hid (eV w3 (.slice a1 nf c1) (.slice a2 nh c2) (.slice a3 nl c3) 47);have HZ3:Hid (w3.heap.size<(w3.alloc (.cells #[.slice a1 nf c1,.slice a2 nh c2,.slice a3 nl c3] 47)).heap.size):=hid (by simp);clear hb hb2 ho3;obtain ⟨d0,d1,d2⟩:=HA3.out;go_wp2_with fail
     generalize w3.alloc (.cells #[.slice a1 nf c1,.slice a2 nh c2,.slice a3 nl c3] 47)=W3 at H3 HG3 HO3 HA3 HZ3 d0 d1 d2 ⊢;generalize hG:w3.heap.size=G at HA3 HZ3 d0 d1 d2 ⊢;clear hG;refine (ni _ _ _ f h l U 0 (-1) W3 HO3.out.bat HG3.out HFR.out).mono ?_;rintro r w4 ⟨err,rfl,hat,hb⟩;obtain rfl:=hat.nil rfl;have H4:=hid (H3.out.below hb);have HO4:=hid (HO3.out.keep (gO hb) (fun k hk=>by cases hk));have HA4:=hid (HA3.out.below hb HZ3.out);clear hb hat d0 d1 d2;by_cases hus:U=s
     ·subst hus;have HUF:Hid (unfF U.data.toList=.inr (f,h,l)):=hid (vi HO.out HUP.out HUB.out hU);have hte:(U.toList == U.toList)=true:=beq_self_eq_true _;have hte2:(U.toList != U.toList)=false:=by simp
      clear hU;obtain ⟨d0,d1,d2⟩:=HA4.out;obtain ⟨⟨c4,c5,c6⟩,z0,z1,z2⟩:=H4.out.cells;have HM:=hid (((H4.out.put (o:=0) (v:=.slice a1 nf c1) rfl).put (o:=1) (v:=.slice a2 nh c2) rfl).put (o:=2) (v:=.slice a3 nl c3) rfl);have HOM:=hid (((HO4.out.cell (k:=w.heap.size) (by have:=HBK.out;omega) 0 (.slice a1 nf c1)).cell (k:=w.heap.size) (by have:=HBK.out;omega) 1 (.slice a2 nh c2)).cell (k:=w.heap.size) (by have:=HBK.out;omega) 2 (.slice a3 nl c3));go_wp2;generalize ((w4.setCell ⟨w.heap.size,0,none⟩ (.slice a1 nf c1)).setCell ⟨w.heap.size,1,none⟩ (.slice a2 nh c2)).setCell ⟨w.heap.size,2,none⟩ (.slice a3 nl c3)=WZ at HM HOM ⊢;obtain ⟨⟨q0,q1,q2⟩,_⟩:=HM.out.cells;refine bodyPost_ret (v:=.tuple #[.agg #[.slice a1 nf c1,.slice a2 nh c2,.slice a3 nl c3],.nilIface]) (by simp [results,Tryz.results95,go_sem,q0,q1,q2]) rfl ?_;exact HQQ.out _ _ _ _ _ _ _ HM.out.2.1 HUF.out (HOM.out.mono (by have:=HBK.out;omega))
     ·have HUF:Hid (unfF s.data.toList=.inl (13,-1)):=hid (Fo HO.out HUP.out HUB.out (fun hx=>hus (cX (by rw [←hU];exact hx))));have hte:(U.toList == s.toList)=false:=beq_eq_false_iff_ne.2 (fun hx=>hus (cX (by rw [←toL,←toL];exact hx)));have hte2:(U.toList != s.toList)=true:=by rw [bne,hte];rfl
      clear hU;obtain ⟨⟨c0,c1,c2⟩,z0,z1,z2⟩:=H4.out.cells;have HM:=hid (((H4.out.put (o:=0) (v:=.slice none 0 0) rfl).put (o:=1) (v:=.slice none 0 0) rfl).put (o:=2) (v:=.slice none 0 0) rfl);have HAE:Hid (ax (((w4.setCell ⟨w.heap.size,0,none⟩ (.slice none 0 0)).setCell ⟨w.heap.size,1,none⟩ (.slice none 0 0)).setCell ⟨w.heap.size,2,none⟩ (.slice none 0 0)) (.iface 68 (.int .i64 13)) (13,-1)):=hid (fy _ (by decide));go_wp2;generalize ((w4.setCell ⟨w.heap.size,0,none⟩ (.slice none 0 0)).setCell ⟨w.heap.size,1,none⟩ (.slice none 0 0)).setCell ⟨w.heap.size,2,none⟩ (.slice none 0 0)=WZ at HM HAE ⊢;obtain ⟨⟨q0,q1,q2⟩,_⟩:=HM.out.cells;refine bodyPost_ret (v:=.tuple #[.agg #[.slice none 0 0,.slice none 0 0,.slice none 0 0],.iface 68 (.int .i64 13)]) (by simp [results,Tryz.results95,go_sem,q0,q1,q2]) rfl ?_;exact ⟨HM.out.2.1,.inl ⟨_,_,_,HUF.out,(by decide),rfl,HAE.out⟩⟩
   ·have HUF:Hid (unfF s.data.toList=.inl (e,-1)):=hid (Fr HO.out hp2 he);clear ho hp hp2;go_enter Tryz.func95,Tryz.ntmps95
    go_wp2_with fail
    generalize w.alloc (.cells #[.slice none 0 0,.slice none 0 0,.slice none 0 0] 47)=W at HW HG ⊢;refine (g9 s J 3 0 W hsz HO.out).mono ?_;rintro r w1 ⟨rfl,hb⟩;have H1:=hid (HW.out.below hb);have HG1:=hid (HG.out.below hb);clear hb;rw [bB];go_wp2_with fail
    refine (HPK.out w1 HG1.out).mono ?_;rintro r w2 ⟨rfl,hb⟩;have H2:=hid (H1.out.below hb);clear hb;rw [ez he];obtain ⟨⟨c0,c1,c2⟩,z0,z1,z2⟩:=H2.out.cells;have HM:=hid (((H2.out.put (o:=0) (v:=.slice none 0 0) rfl).put (o:=1) (v:=.slice none 0 0) rfl).put (o:=2) (v:=.slice none 0 0) rfl);have HAE:Hid (ax (((w2.setCell ⟨w.heap.size,0,none⟩ (.slice none 0 0)).setCell ⟨w.heap.size,1,none⟩ (.slice none 0 0)).setCell ⟨w.heap.size,2,none⟩ (.slice none 0 0)) (.iface 68 (.int .i64 e)) (e,-1)):=hid (fy _ he);go_wp2;generalize ((w2.setCell ⟨w.heap.size,0,none⟩ (.slice none 0 0)).setCell ⟨w.heap.size,1,none⟩ (.slice none 0 0)).setCell ⟨w.heap.size,2,none⟩ (.slice none 0 0)=WZ at HM HAE ⊢;obtain ⟨⟨q0,q1,q2⟩,_⟩:=HM.out.cells;refine bodyPost_ret (v:=.tuple #[.agg #[.slice none 0 0,.slice none 0 0,.slice none 0 0],.iface 68 (.int .i64 e)]) (by simp [results,Tryz.results95,go_sem,q0,q1,q2]) rfl ?_;exact ⟨HM.out.2.1,.inl ⟨_,_,_,HUF.out,he,rfl,HAE.out⟩⟩
  ·have HUF:Hid (unfF s.data.toList=.inl (6,-1)):=hid (vj HO.out hv);have hvi:((v:Int) == 3)=false:=by simp;omega
   have hvj:((v:Int) != 3)=true:=by rw [bne,hvi];rfl
   clear ho hp;go_enter Tryz.func95,Tryz.ntmps95
   go_wp2_with fail
   generalize w.alloc (.cells #[.slice none 0 0,.slice none 0 0,.slice none 0 0] 47)=W at HW HG ⊢;refine (g9 s J v 0 W hsz HO.out).mono ?_;rintro r w1 ⟨rfl,hb⟩;have H1:=hid (HW.out.below hb);have HG1:=hid (HG.out.below hb);clear hb;rw [bB];obtain ⟨⟨c0,c1,c2⟩,z0,z1,z2⟩:=H1.out.cells;have HM:=hid (((H1.out.put (o:=0) (v:=.slice none 0 0) rfl).put (o:=1) (v:=.slice none 0 0) rfl).put (o:=2) (v:=.slice none 0 0) rfl);have HAE:Hid (ax (((w1.setCell ⟨w.heap.size,0,none⟩ (.slice none 0 0)).setCell ⟨w.heap.size,1,none⟩ (.slice none 0 0)).setCell ⟨w.heap.size,2,none⟩ (.slice none 0 0)) (.iface 68 (.int .i64 6)) (6,-1)):=hid (fy _ (by decide));go_wp2;generalize ((w1.setCell ⟨w.heap.size,0,none⟩ (.slice none 0 0)).setCell ⟨w.heap.size,1,none⟩ (.slice none 0 0)).setCell ⟨w.heap.size,2,none⟩ (.slice none 0 0)=WZ at HM HAE ⊢;obtain ⟨⟨q0,q1,q2⟩,_⟩:=HM.out.cells;refine bodyPost_ret (v:=.tuple #[.agg #[.slice none 0 0,.slice none 0 0,.slice none 0 0],.iface 68 (.int .i64 6)]) (by simp [results,Tryz.results95,go_sem,q0,q1,q2]) rfl ?_;exact ⟨HM.out.2.1,.inl ⟨_,_,_,HUF.out,(by decide),rfl,HAE.out⟩⟩
 ·have HUF:Hid (unfF s.data.toList=.inl (e,-1)):=hid (Fq HO.out he);clear ho;go_enter Tryz.func95,Tryz.ntmps95
  go_wp2_with fail
  generalize w.alloc (.cells #[.slice none 0 0,.slice none 0 0,.slice none 0 0] 47)=W at HW HG ⊢;refine (g9 s J v e W hsz HO.out).mono ?_;rintro r w1 ⟨rfl,hb⟩;have H1:=hid (HW.out.below hb);have HG1:=hid (HG.out.below hb);clear hb;rw [ez he];obtain ⟨⟨c0,c1,c2⟩,z0,z1,z2⟩:=H1.out.cells;have HM:=hid (((H1.out.put (o:=0) (v:=.slice none 0 0) rfl).put (o:=1) (v:=.slice none 0 0) rfl).put (o:=2) (v:=.slice none 0 0) rfl);have HAE:Hid (ax (((w1.setCell ⟨w.heap.size,0,none⟩ (.slice none 0 0)).setCell ⟨w.heap.size,1,none⟩ (.slice none 0 0)).setCell ⟨w.heap.size,2,none⟩ (.slice none 0 0)) (.iface 68 (.int .i64 e)) (e,-1)):=hid (fy _ he);go_wp2;generalize ((w1.setCell ⟨w.heap.size,0,none⟩ (.slice none 0 0)).setCell ⟨w.heap.size,1,none⟩ (.slice none 0 0)).setCell ⟨w.heap.size,2,none⟩ (.slice none 0 0)=WZ at HM HAE ⊢;obtain ⟨⟨q0,q1,q2⟩,_⟩:=HM.out.cells;refine bodyPost_ret (v:=.tuple #[.agg #[.slice none 0 0,.slice none 0 0,.slice none 0 0],.iface 68 (.int .i64 e)]) (by simp [results,Tryz.results95,go_sem,q0,q1,q2]) rfl ?_;exact ⟨HM.out.2.1,.inl ⟨_,_,_,HUF.out,he,rfl,HAE.out⟩⟩
end
section
open Go.RowKit
theorem zA (vf vh vw:Value) (f h:List Ent) (l:List Wr) (T:ByteArray) (w:World) (hx:aC w vf vh vw f h l) (hg:errT w) (hb:frmF f h l=(T.data.toList,0,-1)) :
 Calls Tryz.prog 61 #[.agg #[vf,vh,vw]] w fun r w'=>r=.returned (.tuple #[.string T,.nilIface])∧Below w.heap.size w w':=by
 refine (ni vf vh vw f h l T 0 (-1) w hx hg hb).mono ?_;rintro r w' ⟨err,rfl,ha,hb⟩;obtain rfl:=ha.nil rfl;exact ⟨rfl,hb⟩
theorem rl (f h:List Ent) (l:List Wr):(∃ s e pl,aJ f h l=(s,e,pl)∧e≠0∧¬ (aY f h l∧(aK f h l).length≤20000)) ∨
 ∃ S T:ByteArray,aY f h l∧aK f h l=S.data.toList∧S.size≤20000∧frmF f h l=(T.data.toList,0,-1)∧frmL S.data.toList=T.data.toList:=by
 by_cases hr:aY f h l
 ·by_cases hb:20000<(aK f h l).length
  ·exact .inl ⟨_,_,_,jW hr hb,by decide,fun h=>by omega⟩
  ·have hS:aK f h l=(⟨(aK f h l).toArray⟩:ByteArray).data.toList:=by simp
   have hT:frmL (aK f h l)=(⟨(frmL (aK f h l)).toArray⟩:ByteArray).data.toList:=by simp
   refine .inr ⟨⟨(aK f h l).toArray⟩,⟨(frmL (aK f h l)).toArray⟩,hr,hS,?_,?_,?_⟩
   ·rw [aj,←hS];omega
   ·rw [←hT];exact rk (gI hr hb)
   ·rw [←hS,hT]
 ·have h0:(batF f h l).1≠0:=hr;exact .inl ⟨_,_,_,(mH h0).trans (Prod.ext rfl (Prod.ext rfl rfl)),h0,fun h=>hr h.1⟩
end
