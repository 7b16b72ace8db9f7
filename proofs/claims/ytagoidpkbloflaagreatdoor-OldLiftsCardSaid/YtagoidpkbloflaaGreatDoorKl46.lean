import Derived.Test.YtagoidpkbloflaaGreatDoorKlq
import Derived.Test.YtagoidpkbloflaaGreatDoorKl44
namespace Go.Proofs.YtagoidpkbloflaaGreatDoor
open Lib (hid)
set_option maxRecDepth 100000
set_option maxHeartbeats 8000000
open Go.RowKit
def OU1 (s:List UInt8) (k:Nat) (f h:List Ent) (a:Nat):Prop :=
 (k=0∧f=[]∧h=[]∧a=0)∨(k=1∧unE s 0=.inr (a,f)∧h=[])∨(k=2∧∃ b,unE s 0=.inr (b,f)∧unE s b=.inr (a,h))
theorem s9 {s:List UInt8} {a b:Nat} {l:List Ent} (ha:a≤s.length) (h:unE s a=.inr (b,l)):l.length≤16:=by
 rcases ar (s.drop a) 16 with ⟨e,h1,he,_⟩ | ⟨k,j,h1,hk,_,_,hj,hp⟩
 ·rw [fP h1 he] at h;cases h
 ·rw [fQ h1] at h;rw [Dj] at hj;obtain ⟨M1,g1,g2,_⟩:=sd _ _ _ _ _ (by omega) h;rw [E7] at g1;rw [g1,g2];omega
section
variable {w wr w':World} {R a:Nat} {s:ByteArray} {vf vh:Value} {f h:List Ent}
theorem US.addF {v:Value} {l:List Ent} (u:US w R s a vf (.slice none 0 0) (.slice none 0 0) (.slice none 0 0) (.slice none 0 0) f [] [] [] [] wr) (hn:ai w' (R+2) v l) (hg:wr.grownBy w' vf.ownBlock):US w R s a v (.slice none 0 0) (.slice none 0 0) (.slice none 0 0) (.slice none 0 0) l [] [] [] [] (w'.setCell ⟨w.heap.size,0,none⟩ v):=by
 obtain ⟨u1,u2,⟨o1,o2,o3,o4,o5⟩,u4,u5⟩:=u;have hf:=ce o1;have hg2:=bz w' w.heap.size 0 v;exact ⟨(u1.kept hg (fun k hk=>by have:=hf k hk;omega)).put rfl,(u2.kept hg (fun e=>by have:=hf R e;omega)).kept hg2 (by simp;omega),OB.keep (row:=some w.heap.size) ⟨hn,cm _ _,bK _ _,dr _ _,dU _ _⟩ hg2 (fun k hk=>by injection hk with hk;omega),u4,Dl u5 (by simpa using hg.size)⟩
theorem US.addH {v:Value} {l:List Ent} (u:US w R s a vf vh (.slice none 0 0) (.slice none 0 0) (.slice none 0 0) f h [] [] [] wr) (hs:∀ j,vh.ownBlock=some j→vf.ownBlock≠some j) (hn:ai w' (R+2) v l) (hg:wr.grownBy w' vh.ownBlock):US w R s a vf v (.slice none 0 0) (.slice none 0 0) (.slice none 0 0) f l [] [] [] (w'.setCell ⟨w.heap.size,1,none⟩ v):=by
 obtain ⟨u1,u2,⟨o1,o2,o3,o4,o5⟩,u4,u5⟩:=u;have hf:=ce o2;have hg2:=bz w' w.heap.size 1 v;have k1:ai w' (R+2) vf f:=Dt o1 hg (by
  cases hv:vf.ownBlock with
  | none=>exact .inl rfl
  | some g=>exact .inr (fun e=>hs g e.symm hv))
 exact ⟨(u1.kept hg (fun k hk=>by have:=hf k hk;omega)).put rfl,(u2.kept hg (fun e=>by have:=hf R e;omega)).kept hg2 (by simp;omega),OB.keep (row:=some w.heap.size) ⟨k1,hn,bK _ _,dr _ _,dU _ _⟩ hg2 (fun k hk=>by injection hk with hk;omega),u4,Dl u5 (by simpa using hg.size)⟩
theorem mY {g n c:Nat} (o:ai wr (R+2) vf f) (hs:∀ j,vh.ownBlock=some j→vf.ownBlock≠some j) (hg:vh.ownBlock=some g∨g=wr.heap.size):∀ j,(Value.slice (some ⟨g,0,none⟩) n c).ownBlock=some j→vf.ownBlock≠some j:=by
 intro j hj;have e:g=j:=by simpa [Value.ownBlock] using hj
 subst e;rcases hg with hg | hg
 ·exact hs g hg
 ·intro hv;have:=(DQ o g hv).2;omega
end
theorem A4 (s0 s:ByteArray) (w:World) (hs:s0.size≤400000) (ho:opnF s0.data.toList=(1,s.data.toList,0)) :
 Calls Tryz.prog 14 #[.string s0] w (fm w s0.data.toList):=by
 have HOB:Hid (∀ {e:Nat},unO s.data.toList=.inl e→oldF s0.data.toList=.inl (e,-1)):=hid (fun h=>mz ho (by decide) (by decide) h);have HOG:Hid (∀ {b:List Ent×List Ent×List Wr},unO s.data.toList=.inr b→oldF s0.data.toList=.inr b):=hid (fun h=>mB ho (by decide) (by decide) h);obtain ⟨O,hol,hoj,ho4,ho5,hj⟩:=qr hs ho;have HOL:=hid hol;have HOJ:=hid hoj;have HO:=hid ho;have HWS:=hid (im w);have hs2:s0.size≤1000000:=by omega
 have ho3:3≤(O.size:Int):=by omega
 have HSL:Hid (s.data.toList.length=s.size):=hid (ac s).symm;have HS6:Hid (s.size≤1000000):=hid (by omega);have hmf:∀ (fn:Fn) (first cap:Array Value) (w:World),(Instr.makeFunc fn first cap).run Tryz.prog w=.ok (.func fn first cap) w:=fun _ _ _ _=>rfl
 clear ho hol hoj
 go_enter_defers Tryz.func14,Tryz.ntmps14
 go_wp2_with fail
 generalize (w.alloc (.cells #[.slice none 0 0,.slice none 0 0,.slice none 0 0] 25)).alloc (.cells #[.int .i64 0,.int .i64 0] 28)=W at HWS ⊢;refine (cJ s0 s 1 0 W hs2 HO.out).mono ?_;rintro r w00 ⟨rfl,hb0⟩;have HN:=hid (UD.kept HWS.out (ag hb0) (fun k hk=>by cases hk));clear hb0;go_wp2_with fail
 refine (eB s0 O w00 hs2 HOL.out).mono ?_;rintro r w01 ⟨rfl,hb1⟩;have HN1:=hid (UD.kept HN.out (ag hb1) (fun k hk=>by cases hk));clear hb1;go_wp2_with fail
 rw [HOJ.out];refine (dF _).mono ?_;rintro r w1 ⟨rfl,hb1⟩;have HA:Hid (UD w w1 (.slice none 0 0) (.slice none 0 0) (.slice none 0 0) 0 0):=hid (UD.kept HN1.out (ag hb1) (fun k hk=>by cases hk));clear hb1 HN HN1 HWS;obtain ⟨_,⟨c0,c1⟩,_,z0,z1⟩:=HA.out.cells;have HUS0:Hid (US w w1.heap.size s 0 (.slice none 0 0) (.slice none 0 0) (.slice none 0 0) (.slice none 0 0) (.slice none 0 0) [] [] [] [] [] ((((w1.setCell ⟨w.heap.size+1,0,none⟩ (.int .i64 0)).setCell ⟨w.heap.size+1,1,none⟩ (.int .i64 (-1))).alloc (.cells #[.string s,.int .i64 0] 68)).alloc (.cells #[.pointer (some ⟨w.heap.size,0,none⟩),.pointer (some ⟨w.heap.size,1,none⟩)] 69))):=hid (by
  have h1:=HA.out.fault 0 (-1);have hsz:((w1.setCell ⟨w.heap.size+1,0,none⟩ (.int .i64 0)).setCell ⟨w.heap.size+1,1,none⟩ (.int .i64 (-1))).heap.size=w1.heap.size:=by simp
  generalize (w1.setCell ⟨w.heap.size+1,0,none⟩ (.int .i64 0)).setCell ⟨w.heap.size+1,1,none⟩ (.int .i64 (-1))=w2 at h1 hsz ⊢;refine ⟨(h1.kept (E5 _ _ none) (fun k hk=>by cases hk)).kept (E5 _ _ none) (fun k hk=>by cases hk),?_,⟨cm _ _,cm _ _,bK _ _,dr _ _,dU _ _⟩,HA.out.2.2.2,by simp;omega⟩;unfold Sc;rw [←hsz,Below.heap_alloc _ _ _ (by simp)];exact Dg w2 _)
 have HPT0:Hid (PT w.heap.size w1.heap.size ((((w1.setCell ⟨w.heap.size+1,0,none⟩ (.int .i64 0)).setCell ⟨w.heap.size+1,1,none⟩ (.int .i64 (-1))).alloc (.cells #[.string s,.int .i64 0] 68)).alloc (.cells #[.pointer (some ⟨w.heap.size,0,none⟩),.pointer (some ⟨w.heap.size,1,none⟩)] 69))):=hid (by
  have hsz:(((w1.setCell ⟨w.heap.size+1,0,none⟩ (.int .i64 0)).setCell ⟨w.heap.size+1,1,none⟩ (.int .i64 (-1))).alloc (.cells #[.string s,.int .i64 0] 68)).heap.size=w1.heap.size+1:=by simp
  unfold PT;rw [←hsz];exact Dg _ _)
 go_wp2;clear c0 c1 z0 z1 HA;generalize (((w1.setCell ⟨w.heap.size+1,0,none⟩ (.int .i64 0)).setCell ⟨w.heap.size+1,1,none⟩ (.int .i64 (-1))).alloc (.cells #[.string s,.int .i64 0] 68)).alloc (.cells #[.pointer (some ⟨w.heap.size,0,none⟩),.pointer (some ⟨w.heap.size,1,none⟩)] 69)=W2 at HUS0 HPT0 ⊢;generalize w1.heap.size=R at HUS0 HPT0 ⊢
 go_loopw [55] (fun i wr=>∃ (k a:Nat) (f h:List Ent) (vf vh:Value),k≤2∧i=.int .i64 k∧OU1 s.data.toList k f h a∧a≤s.size∧US w R s a vf vh (.slice none 0 0) (.slice none 0 0) (.slice none 0 0) f h [] [] [] wr∧PT w.heap.size R wr∧(k=0→vf=.slice none 0 0∧vh=.slice none 0 0)∧(k=1→vh=.slice none 0 0)) (fun i _=>2-(intOf i).toNat)
 case atStart=>exact ⟨0,0,[],[],.slice none 0 0,.slice none 0 0,by omega,rfl,.inl ⟨rfl,rfl,rfl,rfl⟩,Ds _,HUS0.out,HPT0.out,fun _=>⟨rfl,rfl⟩,fun _=>rfl⟩
 case round =>
  obtain ⟨k,a,f,h,vf,vh,hk,rfl,hu,ha,us,pt,hv0,hv1⟩:=hrel;clear HUS0 HPT0;rcases hu with ⟨rfl,rfl,rfl,ha0⟩ | ⟨rfl,h1,rfl⟩ | ⟨rfl,n,h1,h2⟩
  ·clear hk;obtain ⟨rfl,rfl⟩:=hv0 rfl;clear hv0 hv1;have HA0:=hid ha0;have HE:Hid (∀ {e:Nat},unE s.data.toList a=.inl e→oldF s0.data.toList=.inl (e,-1)):=hid (fun h=>HOB.out (ns (by rw [←HA0.out];exact h)));clear ha0;have HPT:=hid pt;have HUS:=hid us;clear us pt;have p0:wr.cell? ⟨R+1,0,none⟩=some (.pointer (some ⟨w.heap.size,0,none⟩)):=Dd _ _ 0 _ _ (0,0) HPT.out;obtain ⟨wo,rfl⟩:∃ wo,wo=wr:=⟨_,rfl⟩;rcases ar (s.data.toList.drop a) 16 with ⟨e,h1,he,_⟩ | ⟨k1,j1,h1,hk16,_,hj10,hj1l,_⟩
   ·have HRES:Hid (oldF s0.data.toList=.inl (e,-1)):=hid (HE.out (fP h1 he));have H1:=hid h1;clear h1;go_wp2_with fail
    refine (ck R s a e 16 wo HUS.out.2.1 HS6.out ha (by decide) (by decide) H1.out he).mono ?_;rintro r w2 ⟨rfl,hg2⟩;exact cM e (a:Int) (HUS.out.1.kept hg2 (fun k hk=>by injection hk with hk;have:=HUS.out.2.2.2.1;omega)) he HRES.out _ rfl rfl
   rw [Dj,HSL.out] at hj1l;obtain ⟨b,hb⟩:∃ b,a+j1=b:=⟨_,rfl⟩;have hbs:b≤s.size:=by omega
   have HUE:Hid (unE s.data.toList a=unP s.data.toList k1 b []):=hid (by rw [←hb];exact fQ h1);have H1:=hid h1;have HJ10:=hid hj10;have HBE:=hid hb;have HK16:Hid (k1≤16):=hid (by omega);clear h1 hb hj1l hj10 hk16;go_wp2_with fail
   refine (bo R s a k1 j1 16 wo HUS.out.2.1 HS6.out ha (by decide) (by decide) H1.out HJ10.out).mono ?_;rintro r w2 ⟨rfl,hs2,hg2⟩;rw [HBE.out] at hs2;have HU2:=hid (HUS.out.next hs2 hg2);have HP2:=hid (HPT.out.kept hg2 (by simp));clear hs2 hg2 HUS HPT ha p0;go_wp2
   go_loopw [11] (fun kv wr=>∃ (q c:Nat) (L:List Ent) (v:Value),kv=.int .i64 q∧c≤s.size∧L.length+q=k1∧unP s.data.toList k1 b []=unP s.data.toList q c L∧US w R s c v (.slice none 0 0) (.slice none 0 0) (.slice none 0 0) (.slice none 0 0) L [] [] [] [] wr∧PT w.heap.size R wr∧True) (fun kv _=>(intOf kv).toNat)
   case atStart=>exact ⟨k1,b,[],.slice none 0 0,rfl,hbs,by simp,rfl,HU2.out,HP2.out,trivial⟩
   case round =>
    obtain ⟨q,c,L,v,rfl,hc,hLq,hun,us,pt,hsep⟩:=hrel;obtain ⟨av,cv,rfl,_⟩:=us.2.2.1.1.is.form;obtain ⟨nv,hnv⟩:∃ nv,nv=L.length:=⟨_,rfl⟩;rw [←hnv] at us;have HUV:=hid us;have HPV:=hid pt;have HUN:=hid hun;have HNV:=hid hnv;have HLQ:Hid (nv+q=k1):=hid (by rw [hnv];exact hLq);have HSEP:=hid hsep;clear us pt hun hnv hLq hsep HU2 HP2;by_cases hq:0<q
    ·obtain ⟨q',hq'⟩:∃ q',q=q'+1:=⟨q-1,by omega⟩;have HQ:=hid hq';have hq60:q≤60:=by have:=HLQ.out;have:=HK16.out;omega
     have hq0:(0:Int)<(q:Int):=by omega
     have hq1:IntKind.i64.wrap ((q:Int)-1)=(q':Int):=by rw [show (q:Int)-1=(q':Int) by omega];exact Dh _ (by omega)
     have hq2:IntKind.i64.wrap (q':Int)=(q':Int):=Dh _ (by omega);have HQB:Hid (q'<q∧q≤60):=hid (by omega);clear hq';have HER:Hid (∀ {e},unP s.data.toList (q'+1) c L=.inl e→oldF s0.data.toList=.inl (e,-1)):=hid (fun hx=>HE.out (by rw [HUE.out,HUN.out,HQ.out];exact hx));rcases ar (s.data.toList.drop c) 200 with ⟨e,h2,he,_⟩ | ⟨rn,j2,h2,hr200,_,hj10,hj2l,_⟩
     ·have HRES:=hid (HER.out (gA h2 he));have H2:=hid h2;clear h2;go_wp2_with fail
      refine (ck R s c e 200 _ HUV.out.2.1 HS6.out hc (by decide) (by decide) H2.out he).mono ?_;rintro r w3 ⟨rfl,hg3⟩;exact cM e (c:Int) (HUV.out.1.kept hg3 (fun k hk=>by injection hk with hk;have:=HUV.out.2.2.2.1;omega)) he HRES.out _ rfl rfl
     rw [Dj,HSL.out] at hj2l;obtain ⟨c2,hc2e⟩:∃ c2,c+j2=c2:=⟨_,rfl⟩;have hc2:c2≤s.size:=by omega
     have H2:=hid h2;have HJ2:=hid hj10;have HC2:=hid hc2e;clear h2 hj10 hj2l hc2e;go_wp2_with fail
     refine (bo R s c rn j2 200 _ HUV.out.2.1 HS6.out hc (by decide) (by decide) H2.out HJ2.out).mono ?_;rintro r w3 ⟨rfl,hs3,hg3⟩;rw [HC2.out] at hs3;have HU3:=hid (HUV.out.next hs3 hg3);have HP3:=hid (HPV.out.kept hg3 (by simp));clear hs3 hg3 HUV HPV hc;have HU3d:=hid HU3.out.drew;have HP3d:Hid (PT w.heap.size R w3.drew):=hid HP3.out;obtain ⟨⟨b0,b1,b2⟩,_⟩:=HU3.out.1.cells;rcases ar (s.data.toList.drop c2) 1099511627776 with ⟨e,h3,he,_⟩ | ⟨tn,j3,h3,ht40,_,hj10,hj3l,_⟩
     ·have HRES:=hid (HER.out (gC H2.out (by rw [HC2.out];exact h3) he));have H3:=hid h3;clear h3;go_wp2;refine oe (i:=2) (j:=3) (u:=.pointer (some ⟨w.heap.size,0,none⟩)) (v:=.pointer (some ⟨w.heap.size+1,0,none⟩)) ?_;refine Ea (S:=(fun w'=>w'.cell? ⟨w.heap.size,0,none⟩=some (.slice av nv cv))) (by kernel_rfl) b0 (fun hHeld=>?_);generalize w3.drew=W9 at HU3d HP3d hHeld ⊢;refine tkO 0 ?_ (hQ:=by exact aX.put (by decide) (by decide));refine tkO 1 ?_ (hQ:=by exact aX.put (by decide) (by decide));refine tkO 2 ?_ (hQ:=by exact aX.put (by decide) (by decide));refine tkO 3 ?_ (hQ:=by exact aX.put (by decide) (by decide));refine tkO 4 ?_ (hQ:=by exact aX.put (by decide) (by decide));refine tkO 5 ?_ (hQ:=by exact aX.put (by decide) (by decide));refine Dm (rs:=[6]) (by kernel_rfl) (by simp) ?_;refine Dk rfl (fun KK hKK=>?_) Dn
      go_simp
      refine (ck R s c2 e 1099511627776 W9 HU3d.out.2.1 HS6.out hc2 (by decide) (by decide) H3.out he).mono ?_;rintro r w10 ⟨rfl,hg10⟩;have HU10:=hid (HU3d.out.1.kept hg10 (fun k hk=>by injection hk with hk;have:=HU3d.out.2.2.2.1;omega));refine ⟨⟨rfl,rfl⟩,fun a' e1 e2 e3=>?_⟩;obtain ⟨tm,df⟩:=a';dsimp only at e1 e2 e3
      subst e3;exact cM e (c2:Int) HU10.out he HRES.out tm e1 e2
     rw [Dj,HSL.out] at hj3l;obtain ⟨c3,hc3e⟩:∃ c3,c2+j3=c3:=⟨_,rfl⟩;have hc3:c3≤s.size:=by omega
     have H3:=hid h3;have HJ3:=hid hj10;have HC3:=hid hc3e;have HUN2:Hid (unP s.data.toList k1 b []=unP s.data.toList q' c3 (L++[⟨(rn:Int),(tn:Int)⟩])):=hid (by rw [HUN.out,HQ.out,gz H2.out (by rw [HC2.out];exact h3),HC2.out,hc3e]);have HLL:Hid (L.length+1≤1000000):=hid (by have:=HLQ.out;have:=HNV.out;have:=HK16.out;omega);have HLN:Hid (L.length+1=nv+1):=hid (by rw [HNV.out]);have HLQ2:Hid ((L++[(⟨(rn:Int),(tn:Int)⟩:Ent)]).length+q'=k1):=hid (by rw [Df];have:=HLQ.out;have:=HNV.out;have:=HQ.out;simp;omega);clear h3 hj10 hj3l hc3e ht40 b0 b1 b2;go_wp2;refine E6 ?_;refine Ea (S:=(fun _=>True)) (by kernel_rfl) trivial (fun hHeld=>?_);generalize w3.drew=W9 at HU3d HP3d hHeld ⊢;refine tkO 0 ?_;refine tkO 1 ?_;refine tkO 2 ?_;refine tkO 4 ?_;refine tkO 5 ?_;refine Dm (rs:=[3,6]) (by kernel_rfl) (by simp) ?_;refine Dk rfl (fun KK hKK=>?_) (Dk rfl (fun KK hKK=>?_) Dn)
     ·obtain ⟨⟨q0,q1,q2⟩,_⟩:=HU3d.out.1.cells
      go_simp
      refine hKK.out _ _ trivial (fun hHeld=>sp ?_);clear hKK q0 q1 q2
      refine Dm (rs:=[6]) (by kernel_rfl) (by simp) ?_;refine Dk rfl (fun KK hKK=>?_) Dn
      go_simp
      refine (bo R s c2 tn j3 1099511627776 W9 HU3d.out.2.1 HS6.out hc2 (by decide) (by decide) H3.out HJ3.out).mono ?_;rintro r w10 ⟨rfl,hs10,hg10⟩;rw [HC3.out] at hs10;have HU10:=hid (HU3d.out.next hs10 hg10);have HP10:=hid (HP3d.out.kept hg10 (by simp));clear hs10 hg10;refine hKK.out _ _ trivial (fun hHeld=>sp ?_);clear hKK
      refine tkO 7 ?_;refine Dm (rs:=[8]) (by kernel_rfl) (by simp) ?_;refine Dk rfl (fun KK hKK=>?_) Dn
      go_simp
      refine hKK.out _ _ trivial (fun hHeld=>sp ?_);clear hKK
      have HUB:=hid (HU10.out.alloc (.cells #[.int .i64 (rn:Int),.int .i64 (tn:Int)] 73));have HPB:Hid (PT w.heap.size R (w10.alloc (.cells #[.int .i64 (rn:Int),.int .i64 (tn:Int)] 73))):=hid (HP10.out.below ((Below.refl _ _).alloc (Db _) _));have HLB:Hid (ee (w10.alloc (.cells #[.int .i64 (rn:Int),.int .i64 (tn:Int)] 73)) w10.heap.size ⟨(rn:Int),(tn:Int)⟩):=hid (cY _ _ _);generalize w10.alloc (.cells #[.int .i64 (rn:Int),.int .i64 (tn:Int)] 73)=WB at HUB HPB HLB hHeld ⊢;generalize w10.heap.size=bl at HLB ⊢;refine Dm (rs:=[9]) (by kernel_rfl) (by simp) ?_;refine Dk rfl (fun KK hKK=>?_) Dn;refine eF WB rfl _ _ rfl (R+2) _ L rfl HUB.out.2.2.1.1 bl 1 rfl ⟨(rn:Int),(tn:Int)⟩ HLB.out HLL.out HUB.out.2.2.2.2 ?_;intro g cap w14 ho14 hg14 hor14;rw [HLN.out] at ho14;rw [HLN.out];have HU14:=hid (HUB.out.addF ho14 hg14);have HP14:=hid (HPB.out.kept hg14 (fun e=>by have:=ce HUB.out.2.2.1.1 _ e;omega));have hud:=HUB.out.1.kept hg14 (fun k hk=>by have:=ce HUB.out.2.2.1.1 k hk;have:=HUB.out.2.2.2.1;omega);have HSEP2:Hid (True):=hid (trivial);clear ho14 hg14 hor14;refine hKK.out _ _ trivial (fun hHeld=>sp ?_)
      clear hKK
      refine tkO 10 ?_;obtain ⟨⟨q0,q1,q2⟩,_,⟨z0,z1,z2⟩,_⟩:=hud.cells;clear hud;refine Dm (rs:=[11]) (by kernel_rfl) (by simp) ?_;refine Dk rfl (fun KK hKK=>?_) Dn
      go_simp
      refine hKK.out _ _ trivial (fun hHeld=>sp ?_);clear hKK q0 q1 q2 z0 z1 z2
      refine DZ (by kernel_rfl) ?_ _;refine DT ?_;clear hHeld;have HP15:=hid (HP14.out.kept (bz w14 w.heap.size 0 (.slice (some ⟨g,0,none⟩) (nv+1) cap)) (by have:=HU14.out.2.2.2.1;simp;omega));generalize w14.setCell ⟨w.heap.size,0,none⟩ (.slice (some ⟨g,0,none⟩) (nv+1) cap)=w15 at HU14 HP15 ⊢;go_wp2;go_roundw
      case rel=>exact ⟨q',c3,L++[⟨(rn:Int),(tn:Int)⟩],_,by go_num,hc3,HLQ2.out,HUN2.out,HU14.out,HP15.out,HSEP2.out⟩
      case measure=>have:=HQB.out;simp [intOf];omega
     ·go_simp
      refine (bo R s c2 tn j3 1099511627776 W9 HU3d.out.2.1 HS6.out hc2 (by decide) (by decide) H3.out HJ3.out).mono ?_;rintro r w10 ⟨rfl,hs10,hg10⟩;rw [HC3.out] at hs10;have HU10:=hid (HU3d.out.next hs10 hg10);have HP10:=hid (HP3d.out.kept hg10 (by simp));clear hs10 hg10;refine hKK.out _ _ trivial (fun hHeld=>sp ?_);clear hKK
      refine tkO 7 ?_;refine Dm (rs:=[3,8]) (by kernel_rfl) (by simp) ?_;refine Dk rfl (fun KK hKK=>?_) (Dk rfl (fun KK hKK=>?_) Dn)
      ·obtain ⟨⟨q0,q1,q2⟩,_⟩:=HU10.out.1.cells
       go_simp
       refine hKK.out _ _ trivial (fun hHeld=>sp ?_);clear hKK q0 q1 q2
       refine Dm (rs:=[8]) (by kernel_rfl) (by simp) ?_;refine Dk rfl (fun KK hKK=>?_) Dn
       go_simp
       refine hKK.out _ _ trivial (fun hHeld=>sp ?_);clear hKK
       have HUB:=hid (HU10.out.alloc (.cells #[.int .i64 (rn:Int),.int .i64 (tn:Int)] 73));have HPB:Hid (PT w.heap.size R (w10.alloc (.cells #[.int .i64 (rn:Int),.int .i64 (tn:Int)] 73))):=hid (HP10.out.below ((Below.refl _ _).alloc (Db _) _));have HLB:Hid (ee (w10.alloc (.cells #[.int .i64 (rn:Int),.int .i64 (tn:Int)] 73)) w10.heap.size ⟨(rn:Int),(tn:Int)⟩):=hid (cY _ _ _);generalize w10.alloc (.cells #[.int .i64 (rn:Int),.int .i64 (tn:Int)] 73)=WB at HUB HPB HLB hHeld ⊢;generalize w10.heap.size=bl at HLB ⊢;refine Dm (rs:=[9]) (by kernel_rfl) (by simp) ?_;refine Dk rfl (fun KK hKK=>?_) Dn;refine eF WB rfl _ _ rfl (R+2) _ L rfl HUB.out.2.2.1.1 bl 1 rfl ⟨(rn:Int),(tn:Int)⟩ HLB.out HLL.out HUB.out.2.2.2.2 ?_;intro g cap w14 ho14 hg14 hor14;rw [HLN.out] at ho14;rw [HLN.out];have HU14:=hid (HUB.out.addF ho14 hg14);have HP14:=hid (HPB.out.kept hg14 (fun e=>by have:=ce HUB.out.2.2.1.1 _ e;omega));have hud:=HUB.out.1.kept hg14 (fun k hk=>by have:=ce HUB.out.2.2.1.1 k hk;have:=HUB.out.2.2.2.1;omega);have HSEP2:Hid (True):=hid (trivial);clear ho14 hg14 hor14;refine hKK.out _ _ trivial (fun hHeld=>sp ?_)
       clear hKK
       refine tkO 10 ?_;obtain ⟨⟨q0,q1,q2⟩,_,⟨z0,z1,z2⟩,_⟩:=hud.cells;clear hud;refine Dm (rs:=[11]) (by kernel_rfl) (by simp) ?_;refine Dk rfl (fun KK hKK=>?_) Dn
       go_simp
       refine hKK.out _ _ trivial (fun hHeld=>sp ?_);clear hKK q0 q1 q2 z0 z1 z2
       refine DZ (by kernel_rfl) ?_ _;refine DT ?_;clear hHeld;have HP15:=hid (HP14.out.kept (bz w14 w.heap.size 0 (.slice (some ⟨g,0,none⟩) (nv+1) cap)) (by have:=HU14.out.2.2.2.1;simp;omega));generalize w14.setCell ⟨w.heap.size,0,none⟩ (.slice (some ⟨g,0,none⟩) (nv+1) cap)=w15 at HU14 HP15 ⊢;go_wp2;go_roundw
       case rel=>exact ⟨q',c3,L++[⟨(rn:Int),(tn:Int)⟩],_,by go_num,hc3,HLQ2.out,HUN2.out,HU14.out,HP15.out,HSEP2.out⟩
       case measure=>have:=HQB.out;simp [intOf];omega
      ·go_simp
       refine hKK.out _ _ trivial (fun hHeld=>sp ?_);clear hKK
       have HUB:=hid (HU10.out.alloc (.cells #[.int .i64 (rn:Int),.int .i64 (tn:Int)] 73));have HPB:Hid (PT w.heap.size R (w10.alloc (.cells #[.int .i64 (rn:Int),.int .i64 (tn:Int)] 73))):=hid (HP10.out.below ((Below.refl _ _).alloc (Db _) _));have HLB:Hid (ee (w10.alloc (.cells #[.int .i64 (rn:Int),.int .i64 (tn:Int)] 73)) w10.heap.size ⟨(rn:Int),(tn:Int)⟩):=hid (cY _ _ _);generalize w10.alloc (.cells #[.int .i64 (rn:Int),.int .i64 (tn:Int)] 73)=WB at HUB HPB HLB hHeld ⊢;generalize w10.heap.size=bl at HLB ⊢;refine Dm (rs:=[3]) (by kernel_rfl) (by simp) ?_;refine Dk rfl (fun KK hKK=>?_) Dn;obtain ⟨⟨q0,q1,q2⟩,_⟩:=HUB.out.1.cells
       go_simp
       refine hKK.out _ _ trivial (fun hHeld=>sp ?_);clear hKK q0 q1 q2
       refine Dm (rs:=[9]) (by kernel_rfl) (by simp) ?_;refine Dk rfl (fun KK hKK=>?_) Dn;refine eF WB rfl _ _ rfl (R+2) _ L rfl HUB.out.2.2.1.1 bl 1 rfl ⟨(rn:Int),(tn:Int)⟩ HLB.out HLL.out HUB.out.2.2.2.2 ?_;intro g cap w14 ho14 hg14 hor14;rw [HLN.out] at ho14;rw [HLN.out];have HU14:=hid (HUB.out.addF ho14 hg14);have HP14:=hid (HPB.out.kept hg14 (fun e=>by have:=ce HUB.out.2.2.1.1 _ e;omega));have hud:=HUB.out.1.kept hg14 (fun k hk=>by have:=ce HUB.out.2.2.1.1 k hk;have:=HUB.out.2.2.2.1;omega);have HSEP2:Hid (True):=hid (trivial);clear ho14 hg14 hor14;refine hKK.out _ _ trivial (fun hHeld=>sp ?_);clear hKK
       refine tkO 10 ?_;obtain ⟨⟨q0,q1,q2⟩,_,⟨z0,z1,z2⟩,_⟩:=hud.cells;clear hud;refine Dm (rs:=[11]) (by kernel_rfl) (by simp) ?_;refine Dk rfl (fun KK hKK=>?_) Dn
       go_simp
       refine hKK.out _ _ trivial (fun hHeld=>sp ?_);clear hKK q0 q1 q2 z0 z1 z2
       refine DZ (by kernel_rfl) ?_ _;refine DT ?_;clear hHeld;have HP15:=hid (HP14.out.kept (bz w14 w.heap.size 0 (.slice (some ⟨g,0,none⟩) (nv+1) cap)) (by have:=HU14.out.2.2.2.1;simp;omega));generalize w14.setCell ⟨w.heap.size,0,none⟩ (.slice (some ⟨g,0,none⟩) (nv+1) cap)=w15 at HU14 HP15 ⊢;go_wp2;go_roundw
       case rel=>exact ⟨q',c3,L++[⟨(rn:Int),(tn:Int)⟩],_,by go_num,hc3,HLQ2.out,HUN2.out,HU14.out,HP15.out,HSEP2.out⟩
       case measure=>have:=HQB.out;simp [intOf];omega
    ·obtain rfl:q=0:=by omega
     have hq0:¬ ((0:Int)<((0:Nat):Int)):=by omega
     go_wp2;go_roundw
     case rel=>exact ⟨1,c,L,[],.slice av nv cv,.slice none 0 0,by omega,by go_num,.inr (.inl ⟨rfl,by rw [←HA0.out,HUE.out,HUN.out];rfl,rfl⟩),hc,HUV.out,HPV.out,fun h=>absurd h (by decide),fun _=>rfl⟩
     case measure=>simp [intOf]
  ·clear hk;obtain rfl:=hv1 rfl;clear hv0 hv1;have HF:=hid h1;have HE:Hid (∀ {e:Nat},unE s.data.toList a=.inl e→oldF s0.data.toList=.inl (e,-1)):=hid (fun h=>HOB.out (nu HF.out h));clear h1;have HPT:=hid pt;have HUS:=hid us;clear us pt;have p0:wr.cell? ⟨R+1,1,none⟩=some (.pointer (some ⟨w.heap.size,1,none⟩)):=Dd _ _ 1 _ _ (0,0) HPT.out;obtain ⟨wo,rfl⟩:∃ wo,wo=wr:=⟨_,rfl⟩;rcases ar (s.data.toList.drop a) 16 with ⟨e,h1,he,_⟩ | ⟨k1,j1,h1,hk16,_,hj10,hj1l,_⟩
   ·have HRES:Hid (oldF s0.data.toList=.inl (e,-1)):=hid (HE.out (fP h1 he));have H1:=hid h1;clear h1;go_wp2_with fail
    refine (ck R s a e 16 wo HUS.out.2.1 HS6.out ha (by decide) (by decide) H1.out he).mono ?_;rintro r w2 ⟨rfl,hg2⟩;exact cM e (a:Int) (HUS.out.1.kept hg2 (fun k hk=>by injection hk with hk;have:=HUS.out.2.2.2.1;omega)) he HRES.out _ rfl rfl
   rw [Dj,HSL.out] at hj1l;obtain ⟨b,hb⟩:∃ b,a+j1=b:=⟨_,rfl⟩;have hbs:b≤s.size:=by omega
   have HUE:Hid (unE s.data.toList a=unP s.data.toList k1 b []):=hid (by rw [←hb];exact fQ h1);have H1:=hid h1;have HJ10:=hid hj10;have HBE:=hid hb;have HK16:Hid (k1≤16):=hid (by omega);clear h1 hb hj1l hj10 hk16;go_wp2_with fail
   refine (bo R s a k1 j1 16 wo HUS.out.2.1 HS6.out ha (by decide) (by decide) H1.out HJ10.out).mono ?_;rintro r w2 ⟨rfl,hs2,hg2⟩;rw [HBE.out] at hs2;have HU2:=hid (HUS.out.next hs2 hg2);have HP2:=hid (HPT.out.kept hg2 (by simp));clear hs2 hg2 HUS HPT ha p0;go_wp2
   go_loopw [11] (fun kv wr=>∃ (q c:Nat) (L:List Ent) (v:Value),kv=.int .i64 q∧c≤s.size∧L.length+q=k1∧unP s.data.toList k1 b []=unP s.data.toList q c L∧US w R s c vf v (.slice none 0 0) (.slice none 0 0) (.slice none 0 0) f L [] [] [] wr∧PT w.heap.size R wr∧(∀ j,v.ownBlock=some j→vf.ownBlock≠some j)) (fun kv _=>(intOf kv).toNat)
   case atStart=>exact ⟨k1,b,[],.slice none 0 0,rfl,hbs,by simp,rfl,HU2.out,HP2.out,(fun j hj=>by simp [Value.ownBlock] at hj)⟩
   case round =>
    obtain ⟨q,c,L,v,rfl,hc,hLq,hun,us,pt,hsep⟩:=hrel;obtain ⟨av,cv,rfl,_⟩:=us.2.2.1.2.1.is.form;obtain ⟨nv,hnv⟩:∃ nv,nv=L.length:=⟨_,rfl⟩;rw [←hnv] at us hsep;have HUV:=hid us;have HPV:=hid pt;have HUN:=hid hun;have HNV:=hid hnv;have HLQ:Hid (nv+q=k1):=hid (by rw [hnv];exact hLq);have HSEP:=hid hsep;clear us pt hun hnv hLq hsep HU2 HP2;by_cases hq:0<q
    ·obtain ⟨q',hq'⟩:∃ q',q=q'+1:=⟨q-1,by omega⟩;have HQ:=hid hq';have hq60:q≤60:=by have:=HLQ.out;have:=HK16.out;omega
     have hq0:(0:Int)<(q:Int):=by omega
     have hq1:IntKind.i64.wrap ((q:Int)-1)=(q':Int):=by rw [show (q:Int)-1=(q':Int) by omega];exact Dh _ (by omega)
     have hq2:IntKind.i64.wrap (q':Int)=(q':Int):=Dh _ (by omega);have HQB:Hid (q'<q∧q≤60):=hid (by omega);clear hq';have HER:Hid (∀ {e},unP s.data.toList (q'+1) c L=.inl e→oldF s0.data.toList=.inl (e,-1)):=hid (fun hx=>HE.out (by rw [HUE.out,HUN.out,HQ.out];exact hx));rcases ar (s.data.toList.drop c) 200 with ⟨e,h2,he,_⟩ | ⟨rn,j2,h2,hr200,_,hj10,hj2l,_⟩
     ·have HRES:=hid (HER.out (gA h2 he));have H2:=hid h2;clear h2;go_wp2_with fail
      refine (ck R s c e 200 _ HUV.out.2.1 HS6.out hc (by decide) (by decide) H2.out he).mono ?_;rintro r w3 ⟨rfl,hg3⟩;exact cM e (c:Int) (HUV.out.1.kept hg3 (fun k hk=>by injection hk with hk;have:=HUV.out.2.2.2.1;omega)) he HRES.out _ rfl rfl
     rw [Dj,HSL.out] at hj2l;obtain ⟨c2,hc2e⟩:∃ c2,c+j2=c2:=⟨_,rfl⟩;have hc2:c2≤s.size:=by omega
     have H2:=hid h2;have HJ2:=hid hj10;have HC2:=hid hc2e;clear h2 hj10 hj2l hc2e;go_wp2_with fail
     refine (bo R s c rn j2 200 _ HUV.out.2.1 HS6.out hc (by decide) (by decide) H2.out HJ2.out).mono ?_;rintro r w3 ⟨rfl,hs3,hg3⟩;rw [HC2.out] at hs3;have HU3:=hid (HUV.out.next hs3 hg3);have HP3:=hid (HPV.out.kept hg3 (by simp));clear hs3 hg3 HUV HPV hc;have HU3d:=hid HU3.out.drew;have HP3d:Hid (PT w.heap.size R w3.drew):=hid HP3.out;obtain ⟨⟨b0,b1,b2⟩,_⟩:=HU3.out.1.cells;rcases ar (s.data.toList.drop c2) 1099511627776 with ⟨e,h3,he,_⟩ | ⟨tn,j3,h3,ht40,_,hj10,hj3l,_⟩
     ·have HRES:=hid (HER.out (gC H2.out (by rw [HC2.out];exact h3) he));have H3:=hid h3;clear h3;go_wp2;refine oe (i:=2) (j:=3) (u:=.pointer (some ⟨w.heap.size,0,none⟩)) (v:=.pointer (some ⟨w.heap.size+1,0,none⟩)) ?_;refine Ea (S:=(fun w'=>w'.cell? ⟨w.heap.size,1,none⟩=some (.slice av nv cv))) (by kernel_rfl) b1 (fun hHeld=>?_);generalize w3.drew=W9 at HU3d HP3d hHeld ⊢;refine tkO 0 ?_ (hQ:=by exact aX.put (by decide) (by decide));refine tkO 1 ?_ (hQ:=by exact aX.put (by decide) (by decide));refine tkO 2 ?_ (hQ:=by exact aX.put (by decide) (by decide));refine tkO 3 ?_ (hQ:=by exact aX.put (by decide) (by decide));refine tkO 4 ?_ (hQ:=by exact aX.put (by decide) (by decide));refine tkO 5 ?_ (hQ:=by exact aX.put (by decide) (by decide));refine Dm (rs:=[6]) (by kernel_rfl) (by simp) ?_;refine Dk rfl (fun KK hKK=>?_) Dn
      go_simp
      refine (ck R s c2 e 1099511627776 W9 HU3d.out.2.1 HS6.out hc2 (by decide) (by decide) H3.out he).mono ?_;rintro r w10 ⟨rfl,hg10⟩;have HU10:=hid (HU3d.out.1.kept hg10 (fun k hk=>by injection hk with hk;have:=HU3d.out.2.2.2.1;omega));refine ⟨⟨rfl,rfl⟩,fun a' e1 e2 e3=>?_⟩;obtain ⟨tm,df⟩:=a';dsimp only at e1 e2 e3
      subst e3;exact cM e (c2:Int) HU10.out he HRES.out tm e1 e2
     rw [Dj,HSL.out] at hj3l;obtain ⟨c3,hc3e⟩:∃ c3,c2+j3=c3:=⟨_,rfl⟩;have hc3:c3≤s.size:=by omega
     have H3:=hid h3;have HJ3:=hid hj10;have HC3:=hid hc3e;have HUN2:Hid (unP s.data.toList k1 b []=unP s.data.toList q' c3 (L++[⟨(rn:Int),(tn:Int)⟩])):=hid (by rw [HUN.out,HQ.out,gz H2.out (by rw [HC2.out];exact h3),HC2.out,hc3e]);have HLL:Hid (L.length+1≤1000000):=hid (by have:=HLQ.out;have:=HNV.out;have:=HK16.out;omega);have HLN:Hid (L.length+1=nv+1):=hid (by rw [HNV.out]);have HLQ2:Hid ((L++[(⟨(rn:Int),(tn:Int)⟩:Ent)]).length+q'=k1):=hid (by rw [Df];have:=HLQ.out;have:=HNV.out;have:=HQ.out;simp;omega);clear h3 hj10 hj3l hc3e ht40 b0 b1 b2;go_wp2;refine E6 ?_;refine Ea (S:=(fun _=>True)) (by kernel_rfl) trivial (fun hHeld=>?_);generalize w3.drew=W9 at HU3d HP3d hHeld ⊢;refine tkO 0 ?_;refine tkO 1 ?_;refine tkO 2 ?_;refine tkO 4 ?_;refine tkO 5 ?_;refine Dm (rs:=[3,6]) (by kernel_rfl) (by simp) ?_;refine Dk rfl (fun KK hKK=>?_) (Dk rfl (fun KK hKK=>?_) Dn)
     ·obtain ⟨⟨q0,q1,q2⟩,_⟩:=HU3d.out.1.cells
      go_simp
      refine hKK.out _ _ trivial (fun hHeld=>sp ?_);clear hKK q0 q1 q2
      refine Dm (rs:=[6]) (by kernel_rfl) (by simp) ?_;refine Dk rfl (fun KK hKK=>?_) Dn
      go_simp
      refine (bo R s c2 tn j3 1099511627776 W9 HU3d.out.2.1 HS6.out hc2 (by decide) (by decide) H3.out HJ3.out).mono ?_;rintro r w10 ⟨rfl,hs10,hg10⟩;rw [HC3.out] at hs10;have HU10:=hid (HU3d.out.next hs10 hg10);have HP10:=hid (HP3d.out.kept hg10 (by simp));clear hs10 hg10;refine hKK.out _ _ trivial (fun hHeld=>sp ?_);clear hKK
      refine tkO 7 ?_;refine Dm (rs:=[8]) (by kernel_rfl) (by simp) ?_;refine Dk rfl (fun KK hKK=>?_) Dn
      go_simp
      refine hKK.out _ _ trivial (fun hHeld=>sp ?_);clear hKK
      have HUB:=hid (HU10.out.alloc (.cells #[.int .i64 (rn:Int),.int .i64 (tn:Int)] 73));have HPB:Hid (PT w.heap.size R (w10.alloc (.cells #[.int .i64 (rn:Int),.int .i64 (tn:Int)] 73))):=hid (HP10.out.below ((Below.refl _ _).alloc (Db _) _));have HLB:Hid (ee (w10.alloc (.cells #[.int .i64 (rn:Int),.int .i64 (tn:Int)] 73)) w10.heap.size ⟨(rn:Int),(tn:Int)⟩):=hid (cY _ _ _);generalize w10.alloc (.cells #[.int .i64 (rn:Int),.int .i64 (tn:Int)] 73)=WB at HUB HPB HLB hHeld ⊢;generalize w10.heap.size=bl at HLB ⊢;refine Dm (rs:=[9]) (by kernel_rfl) (by simp) ?_;refine Dk rfl (fun KK hKK=>?_) Dn;refine eF WB rfl _ _ rfl (R+2) _ L rfl HUB.out.2.2.1.2.1 bl 1 rfl ⟨(rn:Int),(tn:Int)⟩ HLB.out HLL.out HUB.out.2.2.2.2 ?_;intro g cap w14 ho14 hg14 hor14;rw [HLN.out] at ho14;rw [HLN.out];have HU14:=hid (HUB.out.addH HSEP.out ho14 hg14);have HP14:=hid (HPB.out.kept hg14 (fun e=>by have:=ce HUB.out.2.2.1.2.1 _ e;omega));have hud:=HUB.out.1.kept hg14 (fun k hk=>by have:=ce HUB.out.2.2.1.2.1 k hk;have:=HUB.out.2.2.2.1;omega);have HSEP2:Hid ((∀ j,(Value.slice (some ⟨g,0,none⟩) (nv+1) cap).ownBlock=some j→vf.ownBlock≠some j)):=hid (mY HUB.out.2.2.1.1 HSEP.out hor14)
      clear ho14 hg14 hor14;refine hKK.out _ _ trivial (fun hHeld=>sp ?_);clear hKK
      refine tkO 10 ?_;obtain ⟨⟨q0,q1,q2⟩,_,⟨z0,z1,z2⟩,_⟩:=hud.cells;clear hud;refine Dm (rs:=[11]) (by kernel_rfl) (by simp) ?_;refine Dk rfl (fun KK hKK=>?_) Dn
      go_simp
      refine hKK.out _ _ trivial (fun hHeld=>sp ?_);clear hKK q0 q1 q2 z0 z1 z2
      refine DZ (by kernel_rfl) ?_ _;refine DT ?_;clear hHeld;have HP15:=hid (HP14.out.kept (bz w14 w.heap.size 1 (.slice (some ⟨g,0,none⟩) (nv+1) cap)) (by have:=HU14.out.2.2.2.1;simp;omega));generalize w14.setCell ⟨w.heap.size,1,none⟩ (.slice (some ⟨g,0,none⟩) (nv+1) cap)=w15 at HU14 HP15 ⊢;go_wp2;go_roundw
      case rel=>exact ⟨q',c3,L++[⟨(rn:Int),(tn:Int)⟩],_,by go_num,hc3,HLQ2.out,HUN2.out,HU14.out,HP15.out,HSEP2.out⟩
      case measure=>have:=HQB.out;simp [intOf];omega
     ·go_simp
      refine (bo R s c2 tn j3 1099511627776 W9 HU3d.out.2.1 HS6.out hc2 (by decide) (by decide) H3.out HJ3.out).mono ?_;rintro r w10 ⟨rfl,hs10,hg10⟩;rw [HC3.out] at hs10;have HU10:=hid (HU3d.out.next hs10 hg10);have HP10:=hid (HP3d.out.kept hg10 (by simp));clear hs10 hg10;refine hKK.out _ _ trivial (fun hHeld=>sp ?_);clear hKK
      refine tkO 7 ?_;refine Dm (rs:=[3,8]) (by kernel_rfl) (by simp) ?_;refine Dk rfl (fun KK hKK=>?_) (Dk rfl (fun KK hKK=>?_) Dn)
      ·obtain ⟨⟨q0,q1,q2⟩,_⟩:=HU10.out.1.cells
       go_simp
       refine hKK.out _ _ trivial (fun hHeld=>sp ?_);clear hKK q0 q1 q2
       refine Dm (rs:=[8]) (by kernel_rfl) (by simp) ?_;refine Dk rfl (fun KK hKK=>?_) Dn
       go_simp
       refine hKK.out _ _ trivial (fun hHeld=>sp ?_);clear hKK
       have HUB:=hid (HU10.out.alloc (.cells #[.int .i64 (rn:Int),.int .i64 (tn:Int)] 73));have HPB:Hid (PT w.heap.size R (w10.alloc (.cells #[.int .i64 (rn:Int),.int .i64 (tn:Int)] 73))):=hid (HP10.out.below ((Below.refl _ _).alloc (Db _) _));have HLB:Hid (ee (w10.alloc (.cells #[.int .i64 (rn:Int),.int .i64 (tn:Int)] 73)) w10.heap.size ⟨(rn:Int),(tn:Int)⟩):=hid (cY _ _ _);generalize w10.alloc (.cells #[.int .i64 (rn:Int),.int .i64 (tn:Int)] 73)=WB at HUB HPB HLB hHeld ⊢;generalize w10.heap.size=bl at HLB ⊢;refine Dm (rs:=[9]) (by kernel_rfl) (by simp) ?_;refine Dk rfl (fun KK hKK=>?_) Dn;refine eF WB rfl _ _ rfl (R+2) _ L rfl HUB.out.2.2.1.2.1 bl 1 rfl ⟨(rn:Int),(tn:Int)⟩ HLB.out HLL.out HUB.out.2.2.2.2 ?_;intro g cap w14 ho14 hg14 hor14;rw [HLN.out] at ho14;rw [HLN.out];have HU14:=hid (HUB.out.addH HSEP.out ho14 hg14);have HP14:=hid (HPB.out.kept hg14 (fun e=>by have:=ce HUB.out.2.2.1.2.1 _ e;omega));have hud:=HUB.out.1.kept hg14 (fun k hk=>by have:=ce HUB.out.2.2.1.2.1 k hk;have:=HUB.out.2.2.2.1;omega);have HSEP2:Hid ((∀ j,(Value.slice (some ⟨g,0,none⟩) (nv+1) cap).ownBlock=some j→vf.ownBlock≠some j)):=hid (mY HUB.out.2.2.1.1 HSEP.out hor14)
       clear ho14 hg14 hor14;refine hKK.out _ _ trivial (fun hHeld=>sp ?_);clear hKK
       refine tkO 10 ?_;obtain ⟨⟨q0,q1,q2⟩,_,⟨z0,z1,z2⟩,_⟩:=hud.cells;clear hud;refine Dm (rs:=[11]) (by kernel_rfl) (by simp) ?_;refine Dk rfl (fun KK hKK=>?_) Dn
       go_simp
       refine hKK.out _ _ trivial (fun hHeld=>sp ?_);clear hKK q0 q1 q2 z0 z1 z2
       refine DZ (by kernel_rfl) ?_ _;refine DT ?_;clear hHeld;have HP15:=hid (HP14.out.kept (bz w14 w.heap.size 1 (.slice (some ⟨g,0,none⟩) (nv+1) cap)) (by have:=HU14.out.2.2.2.1;simp;omega));generalize w14.setCell ⟨w.heap.size,1,none⟩ (.slice (some ⟨g,0,none⟩) (nv+1) cap)=w15 at HU14 HP15 ⊢;go_wp2;go_roundw
       case rel=>exact ⟨q',c3,L++[⟨(rn:Int),(tn:Int)⟩],_,by go_num,hc3,HLQ2.out,HUN2.out,HU14.out,HP15.out,HSEP2.out⟩
       case measure=>have:=HQB.out;simp [intOf];omega
      ·go_simp
       refine hKK.out _ _ trivial (fun hHeld=>sp ?_);clear hKK
       have HUB:=hid (HU10.out.alloc (.cells #[.int .i64 (rn:Int),.int .i64 (tn:Int)] 73));have HPB:Hid (PT w.heap.size R (w10.alloc (.cells #[.int .i64 (rn:Int),.int .i64 (tn:Int)] 73))):=hid (HP10.out.below ((Below.refl _ _).alloc (Db _) _));have HLB:Hid (ee (w10.alloc (.cells #[.int .i64 (rn:Int),.int .i64 (tn:Int)] 73)) w10.heap.size ⟨(rn:Int),(tn:Int)⟩):=hid (cY _ _ _);generalize w10.alloc (.cells #[.int .i64 (rn:Int),.int .i64 (tn:Int)] 73)=WB at HUB HPB HLB hHeld ⊢;generalize w10.heap.size=bl at HLB ⊢;refine Dm (rs:=[3]) (by kernel_rfl) (by simp) ?_;refine Dk rfl (fun KK hKK=>?_) Dn;obtain ⟨⟨q0,q1,q2⟩,_⟩:=HUB.out.1.cells
       go_simp
       refine hKK.out _ _ trivial (fun hHeld=>sp ?_);clear hKK q0 q1 q2
       refine Dm (rs:=[9]) (by kernel_rfl) (by simp) ?_;refine Dk rfl (fun KK hKK=>?_) Dn;refine eF WB rfl _ _ rfl (R+2) _ L rfl HUB.out.2.2.1.2.1 bl 1 rfl ⟨(rn:Int),(tn:Int)⟩ HLB.out HLL.out HUB.out.2.2.2.2 ?_;intro g cap w14 ho14 hg14 hor14;rw [HLN.out] at ho14;rw [HLN.out];have HU14:=hid (HUB.out.addH HSEP.out ho14 hg14);have HP14:=hid (HPB.out.kept hg14 (fun e=>by have:=ce HUB.out.2.2.1.2.1 _ e;omega));have hud:=HUB.out.1.kept hg14 (fun k hk=>by have:=ce HUB.out.2.2.1.2.1 k hk;have:=HUB.out.2.2.2.1;omega);have HSEP2:Hid ((∀ j,(Value.slice (some ⟨g,0,none⟩) (nv+1) cap).ownBlock=some j→vf.ownBlock≠some j)):=hid (mY HUB.out.2.2.1.1 HSEP.out hor14);clear ho14 hg14 hor14;refine hKK.out _ _ trivial (fun hHeld=>sp ?_);clear hKK
       refine tkO 10 ?_;obtain ⟨⟨q0,q1,q2⟩,_,⟨z0,z1,z2⟩,_⟩:=hud.cells;clear hud;refine Dm (rs:=[11]) (by kernel_rfl) (by simp) ?_;refine Dk rfl (fun KK hKK=>?_) Dn
       go_simp
       refine hKK.out _ _ trivial (fun hHeld=>sp ?_);clear hKK q0 q1 q2 z0 z1 z2
       refine DZ (by kernel_rfl) ?_ _;refine DT ?_;clear hHeld;have HP15:=hid (HP14.out.kept (bz w14 w.heap.size 1 (.slice (some ⟨g,0,none⟩) (nv+1) cap)) (by have:=HU14.out.2.2.2.1;simp;omega));generalize w14.setCell ⟨w.heap.size,1,none⟩ (.slice (some ⟨g,0,none⟩) (nv+1) cap)=w15 at HU14 HP15 ⊢;go_wp2;go_roundw
       case rel=>exact ⟨q',c3,L++[⟨(rn:Int),(tn:Int)⟩],_,by go_num,hc3,HLQ2.out,HUN2.out,HU14.out,HP15.out,HSEP2.out⟩
       case measure=>have:=HQB.out;simp [intOf];omega
    ·obtain rfl:q=0:=by omega
     have hq0:¬ ((0:Int)<((0:Nat):Int)):=by omega
     go_wp2;go_roundw
     case rel=>exact ⟨2,c,f,L,vf,.slice av nv cv,by omega,by go_num,.inr (.inr ⟨rfl,a,HF.out,by rw [HUE.out,HUN.out];rfl⟩),hc,HUV.out,HPV.out,fun h=>absurd h (by decide),fun h=>absurd h (by decide)⟩
     case measure=>simp [intOf]
  ·clear hk hv0 hv1 pt;have HUS:=hid us;have H1:=hid h1;have H2:=hid h2;have hnn:=(BI (Ds _) h1).2.1;have HRF:Hid (f.length≤16):=hid (s9 (Ds _) h1);have HRH:Hid (h.length≤16):=hid (s9 hnn h2);clear us h1 h2 hnn;rcases ar (s.data.toList.drop a) 60 with ⟨e,h3,he,_⟩ | ⟨k2,j2,h3,hk2,_,hj10,hj2l,_⟩
   ·have HRES:=hid (HOB.out (nx H1.out H2.out h3 he));have H3:=hid h3;clear h3;go_wp2_with fail
    refine (ck R s a e 60 wr HUS.out.2.1 HS6.out ha (by decide) (by decide) H3.out he).mono ?_;rintro r w2 ⟨rfl,hg2⟩;exact cM e (a:Int) (HUS.out.1.kept hg2 (fun k hk=>by injection hk with hk;have:=HUS.out.2.2.2.1;omega)) he HRES.out _ rfl rfl
   rw [Dj,HSL.out] at hj2l;obtain ⟨b2,hb2⟩:∃ b2,a+j2=b2:=⟨_,rfl⟩;have hb2s:b2≤s.size:=by omega
   have H3:=hid h3;have HJ2:=hid hj10;have HB2E:=hid hb2;have HK2:Hid (k2≤60):=hid (by omega);clear h3 hb2 hj2l hj10 hk2;go_wp2_with fail
   refine (bo R s a k2 j2 60 wr HUS.out.2.1 HS6.out ha (by decide) (by decide) H3.out HJ2.out).mono ?_;rintro r w2 ⟨rfl,hs2,hg2⟩;rw [HB2E.out] at hs2;have HU5:=hid (HUS.out.next hs2 hg2);clear hs2 hg2 HUS ha;go_wp2
   go_loopw [13] (fun kv wr=>∃ (q c:Nat) (W:List Wr) (vw:Value),kv=.int .i64 q∧c≤s.size∧W.length+q=k2∧unVs s.data.toList k2 b2 []=unVs s.data.toList q c W∧(∀ t∈W,WrOk t)∧US w R s c vf vh (.slice none 0 0) (.slice none 0 0) vw f h [] [] W wr) (fun kv _=>(intOf kv).toNat)
   case atStart=>exact ⟨k2,b2,[],.slice none 0 0,rfl,hb2s,by simp,rfl,(by intro t ht;simp at ht),HU5.out⟩
   case round =>
    obtain ⟨q,c3,W,vw,rfl,hc3,hWq,huw,hwo,us⟩:=hrel;obtain ⟨aw,cw,rfl,_⟩:=us.2.2.1.2.2.2.2.is.form;obtain ⟨nw,hnw⟩:∃ nw,nw=W.length:=⟨_,rfl⟩;rw [←hnw] at us;have HUS:=hid us;have HUW:=hid huw;have HNW:=hid hnw;have HWO:=hid hwo;have HWQ:Hid (nw+q=k2∧k2≤60):=hid ⟨by rw [hnw];exact hWq,HK2.out⟩;clear us huw hnw hWq hwo HU5;obtain ⟨s0c,s1,sz,sl⟩:=HUS.out.2.1.cells;by_cases hq:0<q
    ·obtain ⟨q',hq'⟩:∃ q',q=q'+1:=⟨q-1,by omega⟩;have HQ:=hid hq';have hq60:q≤60:=by have:=HWQ.out;omega
     have hq0:(0:Int)<(q:Int):=by omega
     have hq1:IntKind.i64.wrap ((q:Int)-1)=(q':Int):=by rw [show (q:Int)-1=(q':Int) by omega];exact Dh _ (by omega)
     have hq2:IntKind.i64.wrap (q':Int)=(q':Int):=Dh _ (by omega);have HQB:Hid (q'<q∧q≤60):=hid (by omega);have HWR:Hid (∀ {e:Nat},unV s.data.toList c3=.inl e→oldF s0.data.toList=.inl (e,-1)):=hid (fun hx=>HOB.out (nB H1.out H2.out H3.out (by rw [HB2E.out,HUW.out,HQ.out,kW hx])));clear hq';by_cases hend:c3=s.size
     ·have HRES:Hid (oldF s0.data.toList=.inl (7,-1)):=hid (HWR.out (iR (e:=7) (K:=0) (j:=0) (by rw [El (by rw [HSL.out];omega)];rfl) (by decide)));have hbe:((c3:Int) == (s.size:Int))=true:=by simp;omega
      go_wp2_with fail
      refine (bi 7 _ _).mono ?_;rintro r w' ⟨rfl,rfl⟩;exact cM 7 _ HUS.out.1 (by decide) HRES.out _ rfl rfl
     have hlt:c3<s.size:=by omega
     have hbe:((c3:Int) == (s.size:Int))=false:=by simp;omega
     have hlt2:(c3:Int)<(s.size:Int):=by omega
     have hge0:(0:Int)≤(c3:Int):=by omega
     obtain ⟨x,hx⟩:∃ x,s[c3]=x:=⟨_,rfl⟩;have hdrop:s.data.toList.drop c3=x::s.data.toList.drop (c3+1):=by
      have h2:c3<s.data.toList.length:=by rw [HSL.out];exact hlt
      have h3:=DA h2;have h4 : s.data.toList[c3]'h2 = x := hx;rw [h4] at h3;exact h3
     obtain ⟨K,hK⟩:∃ K:Int,(x.toNat:Int)=K:=⟨_,rfl⟩;have hK0:0≤K:=by omega
     have hK1:K≤255:=by have:=x.toNat_lt;omega
     have hkw:IntKind.i64.wrap K=K:=Dh _ (by omega);have HDR:=hid hdrop;have HKK:=hid hK;clear hdrop;obtain ⟨X,hX⟩:∃ X,wr.heap.size=X:=⟨_,rfl⟩;have HUA:=hid (HUS.out.alloc (.cells #[.int .i64 0,.int .i64 0,.int .i64 K,.string ⟨#[]⟩,.string ⟨#[]⟩,.int .i64 0] 78));have HXA:Hid ((wr.alloc (.cells #[.int .i64 0,.int .i64 0,.int .i64 K,.string ⟨#[]⟩,.string ⟨#[]⟩,.int .i64 0] 78)).heap[X]? = some (.cells #[.int .i64 0,.int .i64 0,.int .i64 K,.string ⟨#[]⟩,.string ⟨#[]⟩,.int .i64 0] 78 (0,0))):=hid (by rw [←hX];exact Dg wr _);have HXR:Hid (R+2≤X):=hid (by rw [←hX];exact HUS.out.2.2.2.2);have HVX:Hid ((Value.slice aw nw cw).ownBlock≠some X):=hid (fun e=>by have:=(DQ HUS.out.2.2.1.2.2.2.2 X e).2;omega);by_cases hkb:x.toNat<1∨4<x.toNat
     ·have HRES:=hid (HWR.out (iR (e:=1) (K:=0) (j:=0) (by rw [HDR.out];exact if_pos hkb) (by decide)));have HW1:Hid (∀ w:World,Calls Tryz.prog 27 #[.int .i64 K,.int .i64 1,.int .i64 4] w fun e w'=>e=.returned (.bool false)∧w=w'):=hid (fun w=>by
       by_cases h1:K<1
       ·exact bV K 1 4 w h1
       ·exact bU K 1 4 w (by omega) (by omega))
      rw [hX] at *;go_wp2_with fail
      refine (HW1.out _).mono ?_;rintro r w' ⟨rfl,rfl⟩;obtain ⟨y0,y1,yz,yl⟩:=HUA.out.2.1.cells;go_wp2_with fail
      refine (bi 1 (c3:Int) _).mono ?_;rintro r w' ⟨rfl,rfl⟩;exact cM 1 (c3:Int) HUA.out.1 (by decide) HRES.out _ rfl rfl
     have hkg1:1≤K:=by omega
     have hkg2:K≤4:=by omega
     have HKF:Hid (aq (s.data.toList.drop c3)=(x.toNat,1,0)):=hid (by rw [HDR.out];exact if_neg hkb);obtain ⟨c4,hc4e⟩:∃ c4,c4=c3+1:=⟨_,rfl⟩;have hc4:c4≤s.size:=by omega
     have HC4:=hid hc4e;have kw4:IntKind.i64.wrap ((c3:Int)+1)=(c4:Int):=by rw [show (c3:Int)+1=(c4:Int) by omega];exact Dh _ (by omega)
     clear hc4e hkb;go_wp2_with fail
     refine (aQ K 1 4 _ hkg1 hkg2).mono ?_;rintro r w' ⟨rfl,rfl⟩;generalize wr.alloc (.cells #[.int .i64 0,.int .i64 0,.int .i64 K,.string ⟨#[]⟩,.string ⟨#[]⟩,.int .i64 0] 78)=w5 at HUA HXA ⊢;clear hX s0c s1 sz sl hx;obtain ⟨s0c,s1,sz,sl⟩:=HUA.out.2.1.cells;have HU6:=hid (HUA.out.go (b:=c4));have HX6:=hid (bM (R:=R) (o:=1) HXA.out (by have:=HXR.out;omega) (.int .i64 (c4:Int)));rcases ar (s.data.toList.drop c4) 1099511627776 with ⟨e,hi,he,_⟩ | ⟨t,k1t,hi,ht40,_,hk10,hkl,_⟩
     ·have HRES:=hid (HWR.out (kV HKF.out (by rw [←HC4.out];exact hi) he));have HI:=hid hi;clear hi;go_wp2_with fail
      refine (ck R s c4 e 1099511627776 _ HU6.out.2.1 HS6.out hc4 (by decide) (by decide) HI.out he).mono ?_;rintro r w7 ⟨rfl,hg7⟩;exact cM e (c4:Int) (HU6.out.1.kept hg7 (fun k hk=>by injection hk with hk;have:=HU6.out.2.2.2.1;omega)) he HRES.out _ rfl rfl
     rw [Dj,HSL.out] at hkl;obtain ⟨A2,hA2⟩:∃ A2:Int,(t:Int)=A2:=⟨_,rfl⟩;obtain ⟨c5,hc5e⟩:∃ c5,c4+k1t=c5:=⟨_,rfl⟩;have hc5:c5≤s.size:=by omega
     have HT0:Hid (intL (s.data.toList.drop (c3+1)) 1099511627776=(t,k1t,0)):=hid (by rw [←HC4.out];exact hi);have HI:=hid hi;have HK10:=hid hk10;have HC5:=hid hc5e;have HA2:=hid hA2;clear hi hkl hk10 hc5e ht40;go_wp2_with fail
     refine (bo R s c4 t k1t 1099511627776 _ HU6.out.2.1 HS6.out hc4 (by decide) (by decide) HI.out HK10.out).mono ?_;rintro r w9 ⟨rfl,hs9,hg9⟩;rw [HC5.out] at hs9;rw [HA2.out];have HU9:=hid (HU6.out.next hs9 hg9);have HX9:=hid ((hg9.block X (DF.1 HX6.out).1 (by have:=HXR.out;simp;omega)).trans HX6.out);clear hs9 hg9 s0c s1 sz sl HU6 HX6 HUA HXA hge0 hlt2 hlt hend hbe;obtain ⟨x0,_,_,_,_,_⟩:=aI HX9.out;obtain ⟨v0,_,_,_,_,_⟩:=cd HX9.out;have HU10:=hid (HU9.out.store (o:=0) (x:=.int .i64 A2) HX9.out HXR.out HVX.out);have HX10:Hid ((w9.setCell ⟨X,0,none⟩ (.int .i64 A2)).heap[X]? = some (.cells #[.int .i64 A2,.int .i64 0,.int .i64 K,.string ⟨#[]⟩,.string ⟨#[]⟩,.int .i64 0] 78 (0,0))):=hid (De _ X 0 _ _ _ HX9.out);rcases ar (s.data.toList.drop c5) 200 with ⟨e,h6,he,_⟩ | ⟨p,k2r,h6,hp,_,hk2r,hk2l,_⟩
     ·have HRES:=hid (HWR.out (kU HKF.out HT0.out (by rw [show c3+1+k1t=c5 by have:=HC4.out;have:=HC5.out;omega];exact h6) he));have H6:=hid h6;clear h6;go_wp2_with fail
      refine (ck R s c5 e 200 _ HU10.out.2.1 HS6.out hc5 (by decide) (by decide) H6.out he).mono ?_;rintro r w7 ⟨rfl,hg7⟩;exact cM e (c5:Int) (HU10.out.1.kept hg7 (fun k hk=>by injection hk with hk;have:=HU10.out.2.2.2.1;omega)) he HRES.out _ rfl rfl
     rw [Dj,HSL.out] at hk2l;obtain ⟨c6,hc6e⟩:∃ c6,c5+k2r=c6:=⟨_,rfl⟩;have hc6:c6≤s.size:=by omega
     obtain ⟨rep,hrep⟩:∃ rep:Int,(p:Int)=rep:=⟨_,rfl⟩;have HP1:Hid (intL (s.data.toList.drop (c3+1+k1t)) 200=(p,k2r,0)):=hid (by rw [show c3+1+k1t=c5 by have:=HC4.out;have:=HC5.out;omega];exact h6);have H6:=hid h6;have HK2R:=hid hk2r;have HC6:=hid hc6e;have HREP:=hid hrep;clear h6 hk2r hk2l hc6e hp;go_wp2_with fail
     refine (bo R s c5 p k2r 200 _ HU10.out.2.1 HS6.out hc5 (by decide) (by decide) H6.out HK2R.out).mono ?_;rintro r w11 ⟨rfl,hs11,hg11⟩;rw [HC6.out] at hs11;rw [HREP.out];have HU11:=hid (HU10.out.next hs11 hg11);have HX11:=hid ((hg11.block X (DF.1 HX10.out).1 (by have:=HXR.out;simp;omega)).trans HX10.out);clear hs11 hg11 x0 v0 HU9 HX9 HU10 HX10;obtain ⟨_,x1,_,_,_,_⟩:=aI HX11.out;obtain ⟨_,v1,_,_,_,_⟩:=cd HX11.out;have HU12:=hid (HU11.out.store (o:=1) (x:=.int .i64 rep) HX11.out HXR.out HVX.out);have HX12:Hid ((w11.setCell ⟨X,1,none⟩ (.int .i64 rep)).heap[X]? = some (.cells #[.int .i64 A2,.int .i64 rep,.int .i64 K,.string ⟨#[]⟩,.string ⟨#[]⟩,.int .i64 0] 78 (0,0))):=hid (De _ X 1 _ _ _ HX11.out);obtain ⟨y0,y1,yz,yl⟩:=HU12.out.2.1.cells;have d3:(0:Int)≤(c6:Int):=by omega
     have d4:(c6:Int)≤(s.size:Int):=by omega
     obtain ⟨tl,n2,e,hg⟩:∃ t n e,getS (s.data.toList.drop c6)=(t,n,e):=⟨_,_,_,rfl⟩;have HG6:Hid (getS (s.data.toList.drop (c3+1+k1t+k2r))=(tl,n2,e)):=hid (by rw [show c3+1+k1t+k2r=c6 by have:=HC4.out;have:=HC5.out;have:=HC6.out;omega];exact hg);by_cases he:e=0
     rotate_left
     ·have HRES:=hid (HWR.out (kR HKF.out HT0.out HP1.out HG6.out he));have HG:=hid hg;have hne:((e:Int) != 0)=true:=by simp;omega
      clear hg;go_wp2_with fail
      refine (rg (s.extract c6 s.size) n2 e _ (Dl bS (by have:=HS6.out;omega)) (aS s c6) HG.out).mono ?_;rintro r w' ⟨⟨XX,rfl⟩,rfl⟩;go_wp2_with fail
      refine (bi e (c6:Int) _).mono ?_;rintro r w' ⟨rfl,rfl⟩;exact cM e (c6:Int) HU12.out.1 he HRES.out _ rfl rfl
     subst he;obtain ⟨g1,g2,g3,g4⟩:=fl hg;rw [Dj,HSL.out] at g2;obtain ⟨key,hkey⟩:∃ key:ByteArray,key=⟨tl.toArray⟩:=⟨_,rfl⟩;have HKS:Hid (key.size≤140737488351232):=hid (by rw [hkey,bm];omega);obtain ⟨c7,hc7e⟩:∃ c7,c6+n2=c7:=⟨_,rfl⟩;have hc7:c7≤s.size:=by omega
     have kw7:IntKind.i64.wrap ((c6:Int)+(n2:Int))=(c7:Int):=by rw [show (c6:Int)+(n2:Int)=(c7:Int) by omega];exact Dh _ (by omega)
     have HG:=hid hg;have HKEYX:=hid hkey;have HKEY:Hid ((⟨tl.toArray⟩:ByteArray)=key):=hid hkey.symm;have HPOS:Hid (c3+1+k1t+k2r+n2=c7):=hid (by have:=HC4.out;have:=HC5.out;have:=HC6.out;omega);have hz0:((0:Int) != 0)=false:=rfl;clear hg hkey hc7e g1 g2 g3 g4;go_wp2_with fail
     refine (ri (s.extract c6 s.size) key n2 _ (Dl bS (by have:=HS6.out;omega)) (aS s c6) HG.out HKEYX.out).mono ?_;rintro r w' ⟨rfl,rfl⟩;clear x1 v1;generalize w11.setCell ⟨X,1,none⟩ (.int .i64 rep)=w12 at HU12 HX12 y0 y1 yz yl ⊢;clear HU11 HX11;obtain ⟨_,_,_,x3,_,_⟩:=aI HX12.out;obtain ⟨_,_,_,v3,_,_⟩:=cd HX12.out;have HU13:=hid (HU12.out.store (o:=3) (x:=.string key) HX12.out HXR.out HVX.out);have HX13:Hid ((w12.setCell ⟨X,3,none⟩ (.string key)).heap[X]? = some (.cells #[.int .i64 A2,.int .i64 rep,.int .i64 K,.string key,.string ⟨#[]⟩,.int .i64 0] 78 (0,0))):=hid (De _ X 3 _ _ _ HX12.out);obtain ⟨u0,u1,uz,ul⟩:=HU13.out.2.1.cells;have HU15:=hid (HU13.out.go (b:=c7));have HX15:=hid (bM (R:=R) (o:=1) HX13.out (by have:=HXR.out;omega) (.int .i64 (c7:Int)));obtain ⟨e,hF⟩:∃ e,aB A2 rep K key (s.data.toList.drop c7)=e:=⟨_,rfl⟩;have HFU:Hid (aB (t:Int) (p:Int) (x.toNat:Int) ⟨tl.toArray⟩ (s.data.toList.drop (c3+1+k1t+k2r+n2))=e):=hid (by rw [HA2.out,HREP.out,HKK.out,HKEY.out,HPOS.out];exact hF);have HF0:Hid (aB A2 rep K key (s.extract c7 s.size).data.toList=e):=hid (by rw [aS];exact hF)
     have HSX:Hid ((s.extract c7 s.size).size≤140737488351232):=hid (Dl bS (by have:=HS6.out;omega));have d7:(0:Int)≤(c7:Int):=by omega
     have d8:(c7:Int)≤(s.size:Int):=by omega
     go_wp2;clear x3 v3 u0 u1 uz ul y0 y1 yz yl;generalize (w12.setCell ⟨X,3,none⟩ (.string key)).setCell ⟨R,1,none⟩ (.int .i64 (c7:Int))=w15 at HU15 HX15 ⊢;clear HU12 HX12 HU13 HX13;have HU15d:=hid HU15.out.drew;have HX15d:Hid (w15.drew.heap[X]? = some (.cells #[.int .i64 A2,.int .i64 rep,.int .i64 K,.string key,.string ⟨#[]⟩,.int .i64 0] 78 (0,0))):=hid HX15.out;by_cases he:e=0
     rotate_left
     ·have HRES:=hid (HWR.out (kQ HKF.out HT0.out HP1.out HG6.out HFU.out he));have hne:((e:Int) != 0)=true:=by simp;omega
      clear hF;go_wp2;refine E6 ?_;refine Ea (S:=(fun w'=>w'.cell? ⟨R,1,none⟩=some (.int .i64 (c7:Int)))) (by kernel_rfl) HU15d.out.2.1.cells.2.1 (fun hHeld=>?_);generalize w15.drew=W15 at HU15d HX15d hHeld ⊢;refine tkO 1 ?_;refine tkO 2 ?_;refine tkO 3 ?_;refine tkO 4 ?_;refine tkO 5 ?_;refine tkO 6 ?_;obtain ⟨x0,x1,x2,x3,x4,x5⟩:=aI HX15d.out;refine Dm (rs:=[0]) (by kernel_rfl) (by simp) ?_;refine Dk rfl (fun KK hKK=>?_) Dn
      go_simp
      refine hKK.out _ _ HU15d.out.2.1.cells.2.1 (fun hHeld2=>sp ?_);clear hKK hHeld x0 x1 x2 x3 x4 x5
      refine Dm (rs:=[7]) (by kernel_rfl) (by simp) ?_;refine Dk rfl (fun KK hKK=>?_) Dn
      go_simp
      refine (qU A2 rep K key (s.extract c7 s.size) e W15 HKS.out HSX.out HF0.out he).mono ?_;rintro r w16 ⟨rfl,hb16⟩;have HU16:=hid (HU15d.out.below hb16);have HX16:=hid ((hb16.block X (DF.1 HX15d.out).1).trans HX15d.out);clear hb16;refine hKK.out _ _ HU16.out.2.1.cells.2.1 (fun hHeld3=>sp ?_);clear hKK hHeld2
      refine tkO 8 ?_;refine tkO 9 ?_;refine tkO 10 ?_;refine tkO 11 ?_;obtain ⟨x0,x1,x2,x3,x4,x5⟩:=aI HX16.out;obtain ⟨v0,v1,v2,v3,v4,v5⟩:=cd HX16.out;have HU17:=hid ((((((HU16.out.store (o:=0) (x:=.int .i64 0) HX16.out HXR.out HVX.out).store (o:=1) (x:=.int .i64 0) (De _ X 0 _ _ _ HX16.out) HXR.out HVX.out).store (o:=2) (x:=.int .i64 0) (De _ X 1 _ _ _ (De _ X 0 _ _ _ HX16.out)) HXR.out HVX.out).store (o:=3) (x:=.string ⟨#[]⟩) (De _ X 2 _ _ _ (De _ X 1 _ _ _ (De _ X 0 _ _ _ HX16.out))) HXR.out HVX.out).store (o:=4) (x:=.string ⟨#[]⟩) (De _ X 3 _ _ _ (De _ X 2 _ _ _ (De _ X 1 _ _ _ (De _ X 0 _ _ _ HX16.out)))) HXR.out HVX.out).store (o:=5) (x:=.int .i64 0) (De _ X 4 _ _ _ (De _ X 3 _ _ _ (De _ X 2 _ _ _ (De _ X 1 _ _ _ (De _ X 0 _ _ _ HX16.out))))) HXR.out HVX.out);have HX17:Hid (((((((w16.setCell ⟨X,0,none⟩ (.int .i64 0)).setCell ⟨X,1,none⟩ (.int .i64 0)).setCell ⟨X,2,none⟩ (.int .i64 0)).setCell ⟨X,3,none⟩ (.string ⟨#[]⟩)).setCell ⟨X,4,none⟩ (.string ⟨#[]⟩)).setCell ⟨X,5,none⟩ (.int .i64 0)).heap[X]? = some (.cells #[.int .i64 0,.int .i64 0,.int .i64 0,.string ⟨#[]⟩,.string ⟨#[]⟩,.int .i64 0] 78 (0,0))):=hid (De _ X 5 _ _ _ (De _ X 4 _ _ _ (De _ X 3 _ _ _ (De _ X 2 _ _ _ (De _ X 1 _ _ _ (De _ X 0 _ _ _ HX16.out))))))
      refine Dm (rs:=[12]) (by kernel_rfl) (by simp) ?_;refine Dk rfl (fun KK hKK=>?_) Dn
      go_simp
      refine hKK.out _ _ HU17.out.2.1.cells.2.1 (fun hHeld4=>sp ?_);clear hKK hHeld3 x0 x1 x2 x3 x4 x5 v0 v1 v2 v3 v4 v5
      refine tkO 13 ?_;refine tkO 14 ?_;refine DZ (by kernel_rfl) ?_ _;refine DT ?_;clear hHeld4;generalize ((((((w16.setCell ⟨X,0,none⟩ (.int .i64 0)).setCell ⟨X,1,none⟩ (.int .i64 0)).setCell ⟨X,2,none⟩ (.int .i64 0)).setCell ⟨X,3,none⟩ (.string ⟨#[]⟩)).setCell ⟨X,4,none⟩ (.string ⟨#[]⟩)).setCell ⟨X,5,none⟩ (.int .i64 0))=w17 at HU17 HX17 ⊢;clear HU16 HX16 HU15d HX15d;obtain ⟨s0,s1,sz,sl⟩:=HU17.out.2.1.cells;go_wp2_with fail
      refine (bi e (c7:Int) _).mono ?_;rintro r w' ⟨rfl,rfl⟩;exact cM e (c7:Int) HU17.out.1 he HRES.out _ rfl rfl
     subst he;obtain ⟨V5,hV5⟩:∃ V,bP K (s.data.toList.drop c7)=V:=⟨_,rfl⟩;obtain ⟨N5,hN5⟩:∃ N,(getN K (s.data.toList.drop c7)).1=N:=⟨_,rfl⟩;obtain ⟨k5,hk5⟩:∃ k,bZ K (s.data.toList.drop c7)=k:=⟨_,rfl⟩;have hfl:=(fy hF).2.2;rw [hk5,Dj,HSL.out] at hfl;obtain ⟨c8,hc8e⟩:∃ c8,c7+k5=c8:=⟨_,rfl⟩;have hc8:c8≤s.size:=by omega
     have kw8:IntKind.i64.wrap ((c7:Int)+(k5:Int))=(c8:Int):=by rw [show (c7:Int)+(k5:Int)=(c8:Int) by omega];exact Dh _ (by omega)
     have HFV:Hid (bP K (s.extract c7 s.size).data.toList=V5):=hid (by rw [aS];exact hV5);have HFN:Hid ((getN K (s.extract c7 s.size).data.toList).1=N5):=hid (by rw [aS];exact hN5);have HFK:Hid (bZ K (s.extract c7 s.size).data.toList=k5):=hid (by rw [aS];exact hk5);have HUO:Hid (unV s.data.toList c3=.inr (c8,⟨A2,rep,K,key,V5,N5⟩)):=hid (by
      rw [kS HKF.out HT0.out HP1.out HG6.out HFU.out,HPOS.out,HA2.out,HREP.out,HKK.out,HKEY.out,hV5,hN5,hk5,hc8e])
     have HUW2:Hid (unVs s.data.toList k2 b2 []=unVs s.data.toList q' c8 (W++[⟨A2,rep,K,key,V5,N5⟩])):=hid (by rw [HUW.out,HQ.out,kX HUO.out]);have HWO2:Hid (∀ t∈W++[(⟨A2,rep,K,key,V5,N5⟩:Wr)],WrOk t):=hid (fun t ht=>by
      rcases Ef.1 ht with ht | ht
      ·exact HWO.out t ht
      ·rw [Ek.1 ht];exact (dg (BR HUO.out).1).2.2.2.2.2.2.2.2.2)
     clear hF hV5 hN5 hk5 hfl hc8e HWR;have hz:((0:Int) != 0)=false:=rfl;go_wp2;refine E6 ?_;refine Ea (S:=(fun w'=>w'.cell? ⟨R,1,none⟩=some (.int .i64 (c7:Int)))) (by kernel_rfl) HU15d.out.2.1.cells.2.1 (fun hHeld=>?_);generalize w15.drew=W15 at HU15d HX15d hHeld ⊢;refine tkO 1 ?_;refine tkO 2 ?_;refine tkO 3 ?_;refine tkO 4 ?_;refine tkO 5 ?_;refine tkO 6 ?_;obtain ⟨x0,x1,x2,x3,x4,x5⟩:=aI HX15d.out;refine Dm (rs:=[0]) (by kernel_rfl) (by simp) ?_;refine Dk rfl (fun KK hKK=>?_) Dn
     go_simp
     refine hKK.out _ _ HU15d.out.2.1.cells.2.1 (fun hHeld2=>sp ?_);clear hKK hHeld x0 x1 x2 x3 x4 x5
     refine Dm (rs:=[7]) (by kernel_rfl) (by simp) ?_;refine Dk rfl (fun KK hKK=>?_) Dn
     go_simp
     refine (qV A2 rep K key (s.extract c7 s.size) V5 N5 k5 W15 HKS.out HSX.out HF0.out HFV.out HFN.out HFK.out).mono ?_;rintro r w16 ⟨rfl,hb16⟩;have HU16:=hid (HU15d.out.below hb16);have HX16:=hid ((hb16.block X (DF.1 HX15d.out).1).trans HX15d.out);clear hb16;refine hKK.out _ _ HU16.out.2.1.cells.2.1 (fun hHeld3=>sp ?_);clear hKK hHeld2
     refine tkO 8 ?_;refine tkO 9 ?_;refine tkO 10 ?_;refine tkO 11 ?_;obtain ⟨x0,x1,x2,x3,x4,x5⟩:=aI HX16.out;obtain ⟨v0,v1,v2,v3,v4,v5⟩:=cd HX16.out;have HU17:=hid ((((((HU16.out.store (o:=0) (x:=.int .i64 A2) HX16.out HXR.out HVX.out).store (o:=1) (x:=.int .i64 rep) (De _ X 0 _ _ _ HX16.out) HXR.out HVX.out).store (o:=2) (x:=.int .i64 K) (De _ X 1 _ _ _ (De _ X 0 _ _ _ HX16.out)) HXR.out HVX.out).store (o:=3) (x:=.string key) (De _ X 2 _ _ _ (De _ X 1 _ _ _ (De _ X 0 _ _ _ HX16.out))) HXR.out HVX.out).store (o:=4) (x:=.string V5) (De _ X 3 _ _ _ (De _ X 2 _ _ _ (De _ X 1 _ _ _ (De _ X 0 _ _ _ HX16.out)))) HXR.out HVX.out).store (o:=5) (x:=.int .i64 N5) (De _ X 4 _ _ _ (De _ X 3 _ _ _ (De _ X 2 _ _ _ (De _ X 1 _ _ _ (De _ X 0 _ _ _ HX16.out))))) HXR.out HVX.out);have HX17:Hid (((((((w16.setCell ⟨X,0,none⟩ (.int .i64 A2)).setCell ⟨X,1,none⟩ (.int .i64 rep)).setCell ⟨X,2,none⟩ (.int .i64 K)).setCell ⟨X,3,none⟩ (.string key)).setCell ⟨X,4,none⟩ (.string V5)).setCell ⟨X,5,none⟩ (.int .i64 N5)).heap[X]? = some (.cells #[.int .i64 A2,.int .i64 rep,.int .i64 K,.string key,.string V5,.int .i64 N5] 78 (0,0))):=hid (De _ X 5 _ _ _ (De _ X 4 _ _ _ (De _ X 3 _ _ _ (De _ X 2 _ _ _ (De _ X 1 _ _ _ (De _ X 0 _ _ _ HX16.out))))))
     refine Dm (rs:=[12]) (by kernel_rfl) (by simp) ?_;refine Dk rfl (fun KK hKK=>?_) Dn
     go_simp
     refine hKK.out _ _ HU17.out.2.1.cells.2.1 (fun hHeld4=>sp ?_);clear hKK hHeld3 x0 x1 x2 x3 x4 x5 v0 v1 v2 v3 v4 v5
     refine tkO 13 ?_;refine tkO 14 ?_;refine DZ (by kernel_rfl) ?_ _;refine DT ?_;clear hHeld4;generalize ((((((w16.setCell ⟨X,0,none⟩ (.int .i64 A2)).setCell ⟨X,1,none⟩ (.int .i64 rep)).setCell ⟨X,2,none⟩ (.int .i64 K)).setCell ⟨X,3,none⟩ (.string key)).setCell ⟨X,4,none⟩ (.string V5)).setCell ⟨X,5,none⟩ (.int .i64 N5))=w17 at HU17 HX17 ⊢;clear HU16 HX16 HU15d HX15d;obtain ⟨s0,s1,sz,sl⟩:=HU17.out.2.1.cells;have HU18:=hid (HU17.out.go (b:=c8));have HX18:=hid (bM (R:=R) (o:=1) HX17.out (by have:=HXR.out;omega) (.int .i64 (c8:Int)));obtain ⟨x0,x1,x2,x3,x4,x5⟩:=aI HX18.out;obtain ⟨⟨_,_,q2⟩,_⟩:=HU18.out.1.cells;have HX19:Hid (dx ((w17.setCell ⟨R,1,none⟩ (.int .i64 (c8:Int))).alloc (.cells #[.int .i64 A2,.int .i64 rep,.int .i64 K,.string key,.string V5,.int .i64 N5] 78)) w17.heap.size ⟨A2,rep,K,key,V5,N5⟩):=hid (by
      have h:=Dg (w17.setCell ⟨R,1,none⟩ (.int .i64 (c8:Int))) (.cells #[.int .i64 A2,.int .i64 rep,.int .i64 K,.string key,.string V5,.int .i64 N5] 78);rw [World.size_setCell] at h;exact h)
     have HU19:=hid (HU18.out.alloc (.cells #[.int .i64 A2,.int .i64 rep,.int .i64 K,.string key,.string V5,.int .i64 N5] 78));have HWS:Hid (W.length+1≤1000000):=hid (by have:=HNW.out;have:=HWQ.out;omega);have HNW1:Hid (W.length+1=nw+1):=hid (by rw [HNW.out]);clear HU17 HX17 HU15 HX15;go_wp2_with (at_builtin;refine od rfl _ _ rfl (R+2) _ W rfl HU19.out.2.2.1.2.2.2.2 w17.heap.size 1 rfl ⟨A2,rep,K,key,V5,N5⟩ HX19.out HWS.out HU19.out.2.2.2.2 ?_)
     intro g2 cap2 w20 ho20 hg20;rw [HNW1.out] at ho20 ⊢;have HU20:=hid (HU19.out.writes ho20 hg20);have hud:=HU19.out.1.kept hg20 (fun k hk=>by have:=ce HU19.out.2.2.1.2.2.2.2 k hk;have:=HU19.out.2.2.2.1;omega);clear x0 x1 x2 x3 x4 x5 q2 s0 s1 sz sl ho20 hg20;obtain ⟨⟨_,_,q2⟩,_,⟨_,_,z2⟩,_⟩:=hud.cells;clear hud;go_wp2;go_roundw
     case rel=>exact ⟨q',c8,W++[⟨A2,rep,K,key,V5,N5⟩],_,by go_num,hc8,by rw [Df];have:=HNW.out;have:=HWQ.out;have:=HQ.out;simp;omega,HUW2.out,HWO2.out,HU20.out⟩
     case measure=>have:=HQB.out;simp [intOf];omega
    ·obtain rfl:q=0:=by omega
     have HUW2:Hid (unVs s.data.toList k2 (a+j2) []=.inr (c3,W)):=hid (by rw [HB2E.out,HUW.out];rfl);have HREST:=hid (nz H1.out H2.out H3.out HUW2.out);clear HUW;by_cases hcs2:c3<s.size
     ·have HRES:Hid (oldF s0.data.toList=.inl (3,-1)):=hid (HOB.out (by rw [HREST.out,if_pos (by rw [HSL.out];exact hcs2)]));have d2:(c3:Int)<(s.size:Int):=by omega
      go_wp2_with fail
      refine (bi 3 (c3:Int) _).mono ?_;rintro r w' ⟨rfl,rfl⟩;exact cM 3 (c3:Int) HUS.out.1 (by decide) HRES.out _ rfl rfl
     have d2:¬ ((c3:Int)<(s.size:Int)):=by omega
     have hr2:unO s.data.toList=if (batF f h W).1≠0 then .inl (batF f h W).1 else .inr (f,h,W):=by
      rw [HREST.out,if_neg (by rw [HSL.out];exact hcs2)]
     obtain ⟨af,cf,rfl,_⟩:=HUS.out.2.2.1.1.is.form;obtain ⟨ah,ch,rfl,_⟩:=HUS.out.2.2.1.2.1.is.form;obtain ⟨nf,hnf⟩:∃ nf,nf=f.length:=⟨_,rfl⟩;obtain ⟨nh,hnh⟩:∃ nh,nh=h.length:=⟨_,rfl⟩;rw [←hnf,←hnh] at HUS;have HBT:Hid (aR wr (.slice af nf cf) (.slice ah nh ch) (.slice aw nw cw) f h W):=hid ⟨HUS.out.2.2.1.1.is,HUS.out.2.2.1.2.1.is,HUS.out.2.2.1.2.2.2.2.is,by have:=HRF.out;omega,by have:=HRH.out;omega,by have:=HNW.out;have:=HWQ.out;omega,HWO.out⟩;obtain ⟨be,bp,hbf⟩:∃ be bp,batF f h W=(be,bp):=⟨_,_,rfl⟩;rw [hbf] at hr2;have HR2:=hid hr2;have HBF:=hid hbf;clear hr2 hbf HREST hnf hnh;obtain ⟨⟨q0,q1,q2⟩,_⟩:=HUS.out.1.cells;go_wp2_with fail
     refine (kc _ _ _ f h W be bp wr HBT.out HBF.out).mono ?_;rintro r w10 ⟨rfl,hb10⟩;have HU10:=hid ((HUS.out.below hb10).alloc (.cells #[.int .i64 (be:Int),.int .i64 bp] 28));have HG10:Hid (rowF (w10.alloc (.cells #[.int .i64 (be:Int),.int .i64 bp] 28)) w10.heap.size (be:Int) bp):=hid (Dg w10 _);clear hb10 q0 q1 q2 s0c s1 sz sl;go_wp2_with fail
     refine (aH (be:Int) bp _).mono ?_;rintro r w11 ⟨rfl,hb11⟩;have HU11:=hid (HU10.out.below hb11);have HG11:=hid (rowF.below HG10.out hb11 (by simp));clear hb11 HU10 HG10;by_cases hbe:be=0
     rotate_left
     ·have HRES:Hid (oldF s0.data.toList=.inl (be,-1)):=hid (HOB.out (by rw [HR2.out,if_pos hbe]));have hne:((be:Int) == 0)=false:=by simp;omega
      rw [hne];obtain ⟨g0,g1⟩:=HG11.out.at;go_wp2_with fail
      refine (bi be (-1) _).mono ?_;rintro r w' ⟨rfl,rfl⟩;exact cM be (-1) HU11.out.1 hbe HRES.out _ rfl rfl
     subst hbe;rw [show (((0:Nat):Int) == 0)=true by rfl];have HRES:Hid (oldF s0.data.toList=.inr (f,h,W)):=hid (HOG.out (by rw [HR2.out,if_neg (by simp)]));obtain ⟨⟨q0,q1,q2⟩,⟨x0,x1⟩,⟨z0,z1,z2⟩,z3,z4⟩:=HU11.out.1.cells;have HUZ:=hid ((((HU11.out.1.put (o:=0) (v:=.slice af nf cf) rfl).put (o:=1) (v:=.slice ah nh ch) rfl).put (o:=2) (v:=.slice aw nw cw) rfl).fault 0 (-1));have HBO:=hid (show aJ (((((w11.setCell ⟨w.heap.size,0,none⟩ (.slice af nf cf)).setCell ⟨w.heap.size,1,none⟩ (.slice ah nh ch)).setCell ⟨w.heap.size,2,none⟩ (.slice aw nw cw)).setCell ⟨w.heap.size+1,0,none⟩ (.int .i64 0)).setCell ⟨w.heap.size+1,1,none⟩ (.int .i64 (-1))) (w.heap.size+2) (.slice af nf cf) (.slice ah nh ch) (.slice aw nw cw) f h W from by
      have hR2:=HU11.out.2.2.2.1;have hb:aJ w11 (w.heap.size+2) (.slice af nf cf) (.slice ah nh ch) (.slice aw nw cw) f h W:=⟨HU11.out.2.2.1.1.mono (by omega),HU11.out.2.2.1.2.1.mono (by omega),HU11.out.2.2.1.2.2.2.2.mono (by omega),HRF.out,HRH.out,by have:=HNW.out;have:=HWQ.out;omega,HWO.out⟩;exact ((((hb.cell (k:=w.heap.size) (by omega) 0 _).cell (k:=w.heap.size) (by omega) 1 _).cell (k:=w.heap.size) (by omega) 2 _).cell (k:=w.heap.size+1) (by omega) 0 _).cell (k:=w.heap.size+1) (by omega) 1 _)
     go_wp2;exact xN HUZ.out HBO.out HRES.out _ rfl rfl
theorem zZ (s:ByteArray) (w:World) (hs:s.size≤400000):Calls Tryz.prog 14 #[.string s] w (fm w s.data.toList):=by
 obtain ⟨v,i,e,ho⟩:∃ v i e,opnF s.data.toList=(v,i,e):=⟨_,_,_,rfl⟩;obtain ⟨J,hJ⟩:∃ J:ByteArray,i=J.data.toList:=⟨⟨i.toArray⟩,by simp⟩;subst hJ;by_cases he:e=0
 ·subst he;have hv:=qv ho;rcases (show v=1∨v=2∨v=3 by omega) with rfl | rfl | rfl
  ·exact A4 s J w hs ho
  ·exact A6 s J w hs ho
  ·exact A5 s J w hs ho
 ·exact A3 s J v e w hs ho he
