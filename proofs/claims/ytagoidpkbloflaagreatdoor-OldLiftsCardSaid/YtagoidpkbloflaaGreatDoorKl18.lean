import Derived.Test.YtagoidpkbloflaaGreatDoorKlq
import Derived.Test.YtagoidpkbloflaaGreatDoorKl16
namespace Go.Proofs.YtagoidpkbloflaaGreatDoor
open Lib (hid)
set_option maxRecDepth 100000
set_option maxHeartbeats 8000000
section
open Go.RowKit
theorem bO (n:Int) (w:World):Calls Tryz.prog 12 #[.int .i64 n] w fun e w'=>e=.returned (.agg #[.int .i64 n,.int .i64 (-1)])∧Below w.heap.size w w':=by
 go_enter Tryz.func12,Tryz.ntmps12
 go_wp2;refine Dc (v:=.agg #[.int .i64 n,.int .i64 (-1)]) (by simp [results,Tryz.results12,go_sem]) rfl ?_;exact ⟨rfl,(Below.refl _ _).alloc (Db _) _⟩
theorem cO {r:Nat×Int} {e:Nat} {pl:Int} (h:r=(e,pl)):bH r=.agg #[.int .i64 (e:Int),.int .i64 pl]:=by rw [h];rfl
theorem Au (v:Value) (l:List Ent) (w:World) (hv:ae w v l) (hl:l.length≤9223372036854775807) :
 Calls Tryz.prog 69 #[v] w fun e w'=>e=.returned (bH (au l))∧Below w.heap.size w w':=by
 obtain ⟨a1,c1,rfl,f1⟩:=hv.form;have F1:=hid f1;obtain ⟨n,hn⟩:∃ n,n=l.length:=⟨_,rfl⟩;rw [←hn] at hl ⊢;have HN:=hid hn;clear hv f1 hn;by_cases h16:16<n
 ·have HW:Hid (bH (au l)=.agg #[.int .i64 4,.int .i64 (-1)]):=hid (cO (show au l=(4,-1) by unfold au;rw [if_pos (by rw [←HN.out];exact h16)]));have h2:16<(n:Int):=by omega
  rw [HW.out];go_enter Tryz.func69,Tryz.ntmps69
  go_wp2_with fail
  refine (bO 4 _).mono ?_;rintro r w1 ⟨rfl,hb1⟩;have hz1:=hb1.size;rw [DE] at hz1;have d0:w1.cell? ⟨w.heap.size,0,none⟩=some (.int .i64 0):=(hb1.cell (by simp)).trans (by simp);have d1:w1.cell? ⟨w.heap.size,1,none⟩=some (.int .i64 0):=(hb1.cell (by simp)).trans (by simp);have g0:w1.frozen? ⟨w.heap.size,0,none⟩=false:=(hb1.frozen (by simp)).trans (by simp);have g1:w1.frozen? ⟨w.heap.size,1,none⟩=false:=(hb1.frozen (by simp)).trans (by simp);have HB1:Hid (Below w.heap.size w w1):=((Below.refl _ _).alloc (Db _) _).trans (hb1.mono (by simp));clear hb1;go_wp2;refine Dc (v:=.agg #[.int .i64 4,.int .i64 (-1)]) (by simp [results,Tryz.results69,go_sem,d0,d1]) rfl ?_;exact ⟨rfl,(HB1.out.setCell (Db _) _).setCell (Db _) _⟩
 ·have hvr:au l=vr l 0 (-1):=by unfold au;rw [if_neg (by rw [←HN.out];exact h16)]
  rw [hvr];clear hvr;go_enter Tryz.func69,Tryz.ntmps69
  go_wp2
  go_loopw [3,12] (fun s i wr=>∃ (k:Nat) (last:Int),k≤n∧i=.int .i64 k∧s=.int .i64 last∧vr l 0 (-1)=vr (l.drop k) k last∧Below (w.heap.size+1) (w.alloc (.cells #[.int .i64 0,.int .i64 0] 28)) wr) (fun _ i _=>n-(intOf i).toNat)
  case atStart=>exact ⟨0,-1,by omega,rfl,rfl,rfl,Below.refl _ _⟩
  case round =>
   obtain ⟨k,last,hk,rfl,rfl,heq,hbel⟩:=hrel;have HEQ:=hid heq;have HB:=hid hbel;have x0:wr.cell? ⟨w.heap.size,0,none⟩=some (.int .i64 0):=(hbel.cell (by exact Du _)).trans (by simp);have x1:wr.cell? ⟨w.heap.size,1,none⟩=some (.int .i64 0):=(hbel.cell (by exact Du _)).trans (by simp);have y0:wr.frozen? ⟨w.heap.size,0,none⟩=false:=(hbel.frozen (by exact Du _)).trans (by simp);have y1:wr.frozen? ⟨w.heap.size,1,none⟩=false:=(hbel.frozen (by exact Du _)).trans (by simp);have hzr:=hbel.size;rw [DE] at hzr;have HB0:Hid (Below w.heap.size w wr):=((Below.refl _ _).alloc (Db _) _).trans (HB.out.mono (Dq _));clear heq hbel;by_cases hlt:k<n
   ·have hkl:k<l.length:=by have:=HN.out;omega
    obtain ⟨t,ht⟩:∃ t,l[k]? = some t:=⟨l[k],Di hkl⟩;obtain ⟨b1,o1,rfl,hb1,p0,p1⟩:=F1.out k t ht;have hd:l.drop k=t::l.drop (k+1):=by
     rw [DA hkl];congr 1;rw [Di hkl] at ht;exact Dr ht
    obtain ⟨rep,time⟩:=t;simp only at p0 p1
    have q0:=(HB0.out.cell (p:=⟨b1,o1+k * 2,none⟩) hb1).trans p0;have q1:=(HB0.out.cell (p:=⟨b1,o1+k * 2+1,none⟩) hb1).trans p1;have HD:=hid hd;have hlt0:w.heap.size<wr.heap.size:=by omega
    clear p0 p1 ht hd hkl;by_cases hr:rep<0∨200<rep∨time<1∨1099511627776<time
    ·have HW : Hid (bH (vr l 0 (-1)) = .agg #[.int .i64 2, .int .i64 k]) := hid (cO (show vr l 0 (-1) = (2, (k : Int)) by
      have hw:wrE ⟨rep,time⟩ last=2:=sO hr;rw [HEQ.out,HD.out,iX (by rw [hw];decide),hw]))
     have HR:=hid hr;clear hr HEQ;by_cases h1:rep<0∨200<rep
     ·rcases h1 with h1 | h1
      ·go_wp2_with fail
       refine (bV rep 0 200 _ h1).mono ?_;rintro r w' ⟨rfl,rfl⟩;go_wp2;refine Dc (v:=.agg #[.int .i64 2,.int .i64 k]) (by simp [results,Tryz.results69,go_sem,x0,x1,hlt0]) rfl ?_;rw [HW.out];exact ⟨rfl,((HB0.out.setCell (Db _) _).setCell (Db _) _).alloc (by simp;omega) _⟩
      ·go_wp2_with fail
       refine (bU rep 0 200 _ (by omega) h1).mono ?_;rintro r w' ⟨rfl,rfl⟩;go_wp2;refine Dc (v:=.agg #[.int .i64 2,.int .i64 k]) (by simp [results,Tryz.results69,go_sem,x0,x1,hlt0]) rfl ?_;rw [HW.out];exact ⟨rfl,((HB0.out.setCell (Db _) _).setCell (Db _) _).alloc (by simp;omega) _⟩
     ·by_cases h2:time<1
      ·go_wp2_with fail
       refine (aQ rep 0 200 _ (by omega) (by omega)).mono ?_;rintro r w' ⟨rfl,rfl⟩;go_wp2_with fail
       refine (bV time 1 1099511627776 _ h2).mono ?_;rintro r w' ⟨rfl,rfl⟩;go_wp2;refine Dc (v:=.agg #[.int .i64 2,.int .i64 k]) (by simp [results,Tryz.results69,go_sem,x0,x1,hlt0]) rfl ?_;rw [HW.out];exact ⟨rfl,((HB0.out.setCell (Db _) _).setCell (Db _) _).alloc (by simp;omega) _⟩
      ·have h3:1099511627776<time:=by have:=HR.out;omega
       go_wp2_with fail
       refine (aQ rep 0 200 _ (by omega) (by omega)).mono ?_;rintro r w' ⟨rfl,rfl⟩;go_wp2_with fail
       refine (bU time 1 1099511627776 _ (by omega) h3).mono ?_;rintro r w' ⟨rfl,rfl⟩;go_wp2;refine Dc (v:=.agg #[.int .i64 2,.int .i64 k]) (by simp [results,Tryz.results69,go_sem,x0,x1,hlt0]) rfl ?_;rw [HW.out];exact ⟨rfl,((HB0.out.setCell (Db _) _).setCell (Db _) _).alloc (by simp;omega) _⟩
    ·have g1:0≤rep:=by omega
     have g2:rep≤200:=by omega
     have g3:1≤time:=by omega
     have g4:time≤1099511627776:=by omega
     by_cases h5:rep≤last
     ·have HW : Hid (bH (vr l 0 (-1)) = .agg #[.int .i64 10, .int .i64 k]) := hid (cO (show vr l 0 (-1) = (10, (k : Int)) by
       have hw:wrE ⟨rep,time⟩ last=10:=sN hr h5;rw [HEQ.out,HD.out,iX (by rw [hw];decide),hw]))
      clear hr HEQ;go_wp2_with fail
      refine (aQ rep 0 200 _ g1 g2).mono ?_;rintro r w' ⟨rfl,rfl⟩;go_wp2_with fail
      refine (aQ time 1 1099511627776 _ g3 g4).mono ?_;rintro r w' ⟨rfl,rfl⟩;go_wp2;refine Dc (v:=.agg #[.int .i64 10,.int .i64 k]) (by simp [results,Tryz.results69,go_sem,x0,x1,hlt0]) rfl ?_;rw [HW.out];exact ⟨rfl,((HB0.out.setCell (Db _) _).setCell (Db _) _).alloc (by simp;omega) _⟩
     ·have HW : Hid (vr l 0 (-1) = vr (l.drop (k + 1)) (k + 1) rep) := hid (show vr l 0 (-1) = vr (l.drop (k + 1)) (k + 1) rep by
       rw [HEQ.out,HD.out,l9 (og hr h5)])
      clear hr HEQ;go_wp2_with fail
      refine (aQ rep 0 200 _ g1 g2).mono ?_;rintro r w' ⟨rfl,rfl⟩;go_wp2_with fail
      refine (aQ time 1 1099511627776 _ g3 g4).mono ?_;rintro r w' ⟨rfl,rfl⟩;go_wp2;go_roundw
      case rel=>exact ⟨k+1,rep,by omega,by go_num,rfl,HW.out,HB.out.alloc (by omega) _⟩
      case measure=>simp [intOf];omega
   ·have HW:Hid (bH (vr l 0 (-1))=.agg #[.int .i64 0,.int .i64 (-1)]):=hid (cO (show vr l 0 (-1)=(0,-1) by rw [HEQ.out,DD (by have:=HN.out;omega)];rfl));have hlt0:w.heap.size<wr.heap.size:=by omega
    clear HEQ;go_wp2_with fail
    refine (dF _).mono ?_;rintro r w1 ⟨rfl,hb1⟩;have d0:w1.cell? ⟨w.heap.size,0,none⟩=some (.int .i64 0):=(hb1.cell hlt0).trans x0;have d1:w1.cell? ⟨w.heap.size,1,none⟩=some (.int .i64 0):=(hb1.cell hlt0).trans x1;have g0:w1.frozen? ⟨w.heap.size,0,none⟩=false:=(hb1.frozen hlt0).trans y0;have g1:w1.frozen? ⟨w.heap.size,1,none⟩=false:=(hb1.frozen hlt0).trans y1;have HBW:Hid (Below w.heap.size w w1):=HB0.out.trans (hb1.mono (DG hlt0));clear hb1 x0 x1 y0 y1;go_wp2;refine Dc (v:=.agg #[.int .i64 0,.int .i64 (-1)]) (by simp [results,Tryz.results69,go_sem,d0,d1]) rfl ?_;rw [HW.out];exact ⟨rfl,(HBW.out.setCell (Db _) _).setCell (Db _) _⟩
end
section
open Go.RowKit Go.Maps
def FT (p m:Nat) (S P3 P4 t:ByteArray) (N X K:Int) (L:Array Bool) (x:Nat→Value) (b:Nat) (W:World):Nat→Prop
 | 0=>x 18=.map (some b)∧JT b W∧m≤b
 | 1=>x 19=.string S
 | 2=>L.getD 0 false=true∧RT b W 1 S
 | 3=>L.getD 0 false=true∧RT b W 2 ⟨#[]⟩
 | 4=>x 20=.pointer (some ⟨p,5,none⟩)
 | 5=>x 21=.int .i64 N
 | 6=>x 22=.int .u64 (zigN N)
 | 7=>x 23=.string P3
 | 8=>L.getD 0 false=true∧RT b W 3 P3
 | 9=>x 24=.pointer (some ⟨p,5,none⟩)
 | 10=>x 25=.int .i64 N
 | 11=>x 26=.int .i64 X
 | 12=>x 27=.int .u64 X
 | 13=>x 28=.string P4
 | 14=>x 29=.string S
 | 15=>x 30=.string (P4++S)
 | 16=>L.getD 0 false=true∧RT b W 4 (P4++S)
 | 17=>x 31=.map (some b)∧∀ j,j<17→L.getD j false=true
 | 18=>x 32=.pointer (some ⟨p,2,none⟩)
 | 19=>x 33=.int .i64 K
 | 20=>x 34=.string t
 | 21=>x 2=.string t
 | 22=>x 3=.int .i64 0
 | _=>True
def bA:Nat→Nat
 | 0=>18
 | 1=>19
 | 4=>20
 | 5=>21
 | 6=>22
 | 7=>23
 | 9=>24
 | 10=>25
 | 11=>26
 | 12=>27
 | 13=>28
 | 14=>29
 | 15=>30
 | 17=>31
 | 18=>32
 | 19=>33
 | 20=>34
 | 21=>2
 | 22=>3
 | _=>0
def keyF:Nat→Int
 | 2=>1
 | 3=>2
 | 8=>3
 | 16=>4
 | _=>0
def FR (x:Nat→Value):Act:=⟨#[x 0,x 1,x 2,x 3,x 4,x 5,x 6,x 7,x 8,x 9,x 10,x 11,x 12,x 13,x 14,x 15,x 16,x 17,x 18,x 19,x 20,x 21,x 22,x 23,x 24,x 25,x 26,x 27,x 28,x 29,x 30,x 31,x 32,x 33,x 34],[]⟩
def upd (x:Nat→Value) (d:Nat) (v:Value):Nat→Value:=fun k=>if k=d then v else x k
def JR (w2:World) (p:Nat) (S P3 P4 t:ByteArray) (N X K:Int) (L:Array Bool) (a:Act) (W:World):Prop :=
 ∃ (x:Nat→Value) (b:Nat),a=FR x∧x 1=.pointer (some ⟨p,0,none⟩)∧x 5=.string S∧Below w2.heap.size w2 W∧∀ j,L.getD j false=true→FT p w2.heap.size S P3 P4 t N X K L x b W j
section
variable {p m:Nat} {S P3 P4 t:ByteArray} {N X K:Int} {L L':Array Bool} {x x':Nat→Value} {b b':Nat} {W W':World} {w2:World}
theorem FT.move {j:Nat} (h:FT p m S P3 P4 t N X K L x b W j) (hx:x' (bA j)=x (bA j)) (hJ:JT b W→JT b W') (hW:∀ s,RT b W (keyF j) s→RT b W' (keyF j) s)
 (hL:∀ j,L.getD j false=true→L'.getD j false=true):FT p m S P3 P4 t N X K L' x' b W' j:=by
 unfold FT at h ⊢;split at h
 ·exact ⟨hx.trans h.1,hJ h.2.1,h.2.2⟩
 ·exact hx.trans h
 ·exact ⟨hL 0 h.1,hW _ h.2⟩
 ·exact ⟨hL 0 h.1,hW _ h.2⟩
 ·exact hx.trans h
 ·exact hx.trans h
 ·exact hx.trans h
 ·exact hx.trans h
 ·exact ⟨hL 0 h.1,hW _ h.2⟩
 ·exact hx.trans h
 ·exact hx.trans h
 ·exact hx.trans h
 ·exact hx.trans h
 ·exact hx.trans h
 ·exact hx.trans h
 ·exact hx.trans h
 ·exact ⟨hL 0 h.1,hW _ h.2⟩
 ·exact ⟨hx.trans h.1,fun j hj=>hL j (h.2 j hj)⟩
 ·exact hx.trans h
 ·exact hx.trans h
 ·exact hx.trans h
 ·exact hx.trans h
 ·exact hx.trans h
 ·trivial
theorem FT.made {j:Nat} (h:FT p m S P3 P4 t N X K L x b W j) (h0:L.getD 0 false=false) (hj:j≠0) (hx:x' (bA j)=x (bA j)):FT p m S P3 P4 t N X K L' x' b' W' j:=by
 unfold FT at h ⊢;split at h
 ·exact absurd rfl hj
 ·exact hx.trans h
 ·rw [h0] at h;exact absurd h.1 (by decide)
 ·rw [h0] at h;exact absurd h.1 (by decide)
 ·exact hx.trans h
 ·exact hx.trans h
 ·exact hx.trans h
 ·exact hx.trans h
 ·rw [h0] at h;exact absurd h.1 (by decide)
 ·exact hx.trans h
 ·exact hx.trans h
 ·exact hx.trans h
 ·exact hx.trans h
 ·exact hx.trans h
 ·exact hx.trans h
 ·exact hx.trans h
 ·rw [h0] at h;exact absurd h.1 (by decide)
 ·have:=h.2 0 (by decide);rw [h0] at this;exact absurd this (by decide)
 ·exact hx.trans h
 ·exact hx.trans h
 ·exact hx.trans h
 ·exact hx.trans h
 ·exact hx.trans h
 ·trivial
theorem JR.next {i:Nat} {a':Act} (ha:a'=FR x') (hF:∀ j,L.getD j false=true→FT p w2.heap.size S P3 P4 t N X K L x b W j) (hB:Below w2.heap.size w2 W') (h1:x' 1=.pointer (some ⟨p,0,none⟩)) (h5:x' 5=.string S)
 (hi:FT p w2.heap.size S P3 P4 t N X K (L.setIfInBounds i true) x' b' W' i) (hm:∀ j,j≠i→FT p w2.heap.size S P3 P4 t N X K L x b W j→FT p w2.heap.size S P3 P4 t N X K (L.setIfInBounds i true) x' b' W' j) :
 JR w2 p S P3 P4 t N X K (L.setIfInBounds i true) a' W' :=
 ⟨x',b',ha,h1,h5,hB,fun j hj=>by
  by_cases e:j=i
  ·subst e;exact hi
  ·exact hm j e (hF j ((vV hj).resolve_left e))⟩
theorem JR.slot {i:Nat} {a':Act} (d:Nat) (v:Value) (ha:a'=FR (upd x d v)) (hF:∀ j,L.getD j false=true→FT p w2.heap.size S P3 P4 t N X K L x b W j) (hB:Below w2.heap.size w2 W') (h1:x 1=.pointer (some ⟨p,0,none⟩)) (h5:x 5=.string S)
 (hJ:JT b W→JT b W') (hW:∀ k s,RT b W k s→RT b W' k s) (hd:d≠1∧d≠5) (hds:∀ j,j≠i→bA j≠d)
 (hi:FT p w2.heap.size S P3 P4 t N X K (L.setIfInBounds i true) (upd x d v) b W' i):JR w2 p S P3 P4 t N X K (L.setIfInBounds i true) a' W' :=
 JR.next ha hF hB (by unfold upd;rw [if_neg (Ne.symm hd.1)];exact h1) (by unfold upd;rw [if_neg (Ne.symm hd.2)];exact h5) hi
  (fun j hj h=>h.move (by unfold upd;rw [if_neg (hds j hj)]) hJ (fun s=>hW _ s) (fun _ h=>fB h))
theorem JR.entry {i:Nat} {a':Act} {k:Int} (ha:a'=FR x) (hF:∀ j,L.getD j false=true→FT p w2.heap.size S P3 P4 t N X K L x b W j) (hB:Below w2.heap.size w2 W') (h1:x 1=.pointer (some ⟨p,0,none⟩)) (h5:x 5=.string S)
 (hJ:JT b W→JT b W') (hW:∀ j s,j≠k→RT b W j s→RT b W' j s) (hk:∀ j,j≠i→keyF j≠k)
 (hi:FT p w2.heap.size S P3 P4 t N X K (L.setIfInBounds i true) x b W' i):JR w2 p S P3 P4 t N X K (L.setIfInBounds i true) a' W' :=
 JR.next ha hF hB h1 h5 hi (fun j hj h=>h.move rfl hJ (fun s=>hW _ s (hk j hj)) (fun _ h=>fB h))
theorem vU {i:Nat} (h:L.getD i true=false):L.getD i false=false:=by
 have hi:=(lO h).2;simp [hi] at h ⊢
 exact h
theorem ci (x:Nat→Value) (d:Nat) (v:Value):upd x d v d=v:=by simp [upd]
end
end
section
open Go.RowKit Go.Maps
theorem Af (T R K:Int) (key val:ByteArray) (N:Int) (w:World) (hk:key.size≤140737488351232) (hv:val.size≤140737488351232) (hN0 : -9223372036854775808≤N) (hN1:N≤9223372036854775807) :
 Calls Tryz.prog 50 #[.agg #[.int .i64 T,.int .i64 R,.int .i64 K,.string key,.string val,.int .i64 N]] w fun e w'=>e=.returned (Bl (kF T R K key val N))∧Below w.heap.size w w':=by
 have HN0:=hid (fj w T R K key val N 78);obtain ⟨E,hE⟩:∃ E,wriE T R K key val N=E:=⟨_,rfl⟩;have HE:=hid hE;clear hE;go_enter Tryz.func50,Tryz.ntmps50
 go_wp2_with fail
 refine (gw T R K key val N _ hk hv).mono ?_;rintro r w1 ⟨rfl,hb1⟩;rw [HE.out];have HA1:=hid (HN0.out.below hb1 (by simp));have HB1:=hid (((Below.refl _ _).alloc (Db _) _).trans (hb1.mono (by simp)));have HL1:Hid (w.heap.size<w1.heap.size):=hid (by have:=hb1.size;simp at this;exact this);clear hb1;by_cases h0:E=0
 ·subst h0;have HT:=hid (kG HE.out);obtain ⟨c0,c1,c2,c3,c4,c5⟩:=HA1.out;have hvl:=(j7 HE.out).2.2.2.1;rw [show ((0:Nat):Int)=0 from rfl];go_wp2_with fail
  refine (rd val w1 (Dl hvl (by decide))).mono ?_;rintro r w2 ⟨rfl,hb2⟩;have HA2:=hid (HA1.out.below hb2 HL1.out);have HB2:=hid (HB1.out.trans (hb2.mono HB1.out.size));have HL2:Hid (w.heap.size<w2.heap.size):=hid (Dv HL1.out hb2.size);clear hb2 c0 c1 c2 c3 c4 c5;go_wp2;have HKB:Hid (-9223372036854775808≤K∧K≤9223372036854775807):=hid (by show _∧_;have:=(j7 HE.out).1;omega);have hSs:(bT val).size≤310:=n4 hvl;have hz:0≤zigN N∧zigN N≤18446744073709551615:=by unfold zigN;split <;> omega
  have hp3:(⟨(putL (zigN N).toNat).toArray⟩:ByteArray).size≤10:=by rw [bm];exact aK (by omega)
  have hp4:(⟨(putL (max 0 N).toNat).toArray⟩:ByteArray).size≤10:=by rw [bm];exact aK (by omega)
  have hmx:0≤max 0 N∧max 0 N≤9223372036854775807:=by omega
  have hta:=Bb HE.out;obtain ⟨S,hS⟩:∃ S,bT val=S:=⟨_,rfl⟩;obtain ⟨P3,hP3⟩:∃ P,(⟨(putL (zigN N).toNat).toArray⟩:ByteArray)=P:=⟨_,rfl⟩;obtain ⟨P4,hP4⟩:∃ P,(⟨(putL (max 0 N).toNat).toArray⟩:ByteArray)=P:=⟨_,rfl⟩;rw [hS,hP3,hP4] at hta;have HAT:=hid hta;rw [hS] at hSs ⊢;rw [hP3] at hp3;rw [hP4] at hp4;have HP3:=hid hP3;have HP4:=hid hP4;obtain ⟨X,hX⟩:∃ X,max 0 N=X:=⟨_,rfl⟩;rw [hX] at hmx HP4;have hwX:IntKind.u64.wrap X=X:=DI X ⟨by omega,by omega⟩;have hsum:P4.size+S.size≤1000:=by omega
  have hadd:¬ (9223372036854775807<P4.size+S.size):=by omega
  have hm1:S.size≤maxLen:=by unfold maxLen;omega
  have hm3:P3.size≤maxLen:=by unfold maxLen;omega
  have hm4:(P4++S).size≤maxLen:=by rw [eO];unfold maxLen;omega
  have hmm:=@run_makeMap Tryz.prog;clear hS hP3 hP4 hta;obtain ⟨_,_,c2,_,_,c5⟩:=HA2.out;have hMA:w.heap.size<w2.heap.size:=HL2.out;have H5:Hid (∀ W,Below w2.heap.size w2 W→W.cell? ⟨w.heap.size,5,none⟩=some (.int .i64 N)):=hid fun W h=>(h.cell hMA).trans c5
  have H2:Hid (∀ W,Below w2.heap.size w2 W→W.cell? ⟨w.heap.size,2,none⟩=some (.int .i64 K)):=hid fun W h=>(h.cell hMA).trans c2
  have HX:=hid hX;clear c2 c5 hMA hX;refine wp_region_any (by kernel_rfl) ?_;refine Cz (JR w2 w.heap.size S P3 P4 (b7 K val N) N X K) ?hb ?hst ?hen _ _ _ _ (by kernel_rfl) (of_decide_eq_true (by kernel_rfl)) ?hin
  case hb=>exact xR (by kernel_rfl)
  case hin=>exact ⟨fun k=>(#[.agg #[.int .i64 T,.int .i64 R,.int .i64 K,.string key,.string val,.int .i64 N],.pointer (some ⟨w.heap.size,0,none⟩),.string ⟨#[]⟩,.int .i64 0,.int .i64 0,.string S,.int .i64 0,.agg #[.int .i64 T,.int .i64 R,.int .i64 K,.string key,.string val,.int .i64 N],.int .i64 0,.int .i64 0,.bool false,undef,.tuple #[.string S,.int .i64 0],.pointer (some ⟨w.heap.size,4,none⟩),.string val,.tuple #[.string S,.int .i64 0],.string S,.int .i64 0]:Array Value).getD k undef,0,rfl,rfl,rfl,(Below.refl _ _).drew,fun j hj=>by rw [xI] at hj;cases hj⟩
  case hen =>
   intro L a W hall hJ;obtain ⟨x,b,rfl,x1,x5,hB,hF⟩:=hJ;have e21:x 2=.string (b7 K val N):=hF 21 (hall 21 (by decide));have e22:x 3=.int .i64 0:=hF 22 (hall 22 (by decide));clear hF hall;unfold FR;rw [e21,e22];go_wp2;go_ret2;rw [HT.out];exact ⟨rfl,HB2.out.trans (hB.mono (DG HL2.out))⟩
  case hst =>
   intro i o hi L a W hs haf hun hJ;obtain ⟨x,b,rfl,x1,x5,hB,hF⟩:=hJ;have hlt:i<23:=(DF.1 hi).1;rcases (show i=0∨i=1∨i=2∨i=3∨i=4∨i=5∨i=6∨i=7∨i=8∨i=9∨i=10∨i=11∨i=12∨i=13∨i=14∨i=15∨i=16∨i=17∨i=18∨i=19∨i=20∨i=21∨i=22 by omega) with rfl | rfl | rfl | rfl | rfl | rfl | rfl | rfl | rfl | rfl | rfl | rfl | rfl | rfl | rfl | rfl | rfl | rfl | rfl | rfl | rfl | rfl | rfl
   ·obtain rfl:=Dr hi;have HF:=hid hF;have HBW:=hid hB;have hn0:=hid (vU hun);clear hi hF hB haf hun hs hlt;refine DP rfl ?_;intro K' hK';unfold FR
    go_simp
    refine hK' _ _ ?_;exact JR.next (x':=upd x 18 (.map (some W.heap.size))) (by simp [FR,upd,x1,x5]) HF.out (HBW.out.alloc HBW.out.size _) (by simp [upd,x1]) (by simp [upd,x5]) ⟨ci _ _ _,JT.made W,HBW.out.size⟩ (fun j hj h=>h.made hn0.out hj (by unfold upd;rw [if_neg (by revert hj;unfold bA;split <;> first | (intro _;decide) | (intro hj;exact absurd rfl hj))]))
   ·obtain rfl:=Dr hi;have HF:=hid hF;have HBW:=hid hB;clear hi hF hB haf hun hs hlt;refine DP rfl ?_;intro K' hK';unfold FR
    go_simp
    refine hK' _ _ ?_;exact JR.slot 19 (.string S) (by simp [FR,upd,x1,x5]) HF.out HBW.out x1 x5 id (fun _ _ h=>h) (by decide) (by intro j hj;unfold bA;split <;> first | decide | exact absurd rfl hj) (ci _ _ _)
   ·obtain rfl:=Dr hi;have q0:L.getD 0 false=true:=haf ⟨0,.data⟩ (by simp) rfl;obtain ⟨e18,eJ,eb⟩:x 18=.map (some b)∧JT b W∧w2.heap.size≤b:=hF 0 q0;have q1:L.getD 1 false=true:=haf ⟨1,.data⟩ (by simp) rfl;have e19:x 19=.string S:=hF 1 q1;obtain ⟨W',hrun,rJ,rR,rO,rG⟩:=k8 eJ (k:=1) (.inl rfl) hm1;have HF:=hid hF;have HBW:=hid hB;clear hi hF hB haf hun hs hlt;refine DP rfl ?_;intro K' hK';unfold FR
    go_simp
    refine hK' _ _ ?_;exact JR.entry (k:=1) (by simp [FR,x1,x5,e18,e19]) HF.out (HBW.out.grown rG HBW.out.size (fun g hg=>by cases hg;exact eb)) x1 x5 (fun _=>rJ) rO (by intro j hj;unfold keyF;split <;> first | decide | exact absurd rfl hj) ⟨fB q0,rR⟩
   ·obtain rfl:=Dr hi;have q0:L.getD 0 false=true:=haf ⟨0,.data⟩ (by simp) rfl;obtain ⟨e18,eJ,eb⟩:x 18=.map (some b)∧JT b W∧w2.heap.size≤b:=hF 0 q0;obtain ⟨W',hrun,rJ,rR,rO,rG⟩:=k8 eJ (k:=2) (.inr (.inl rfl)) (s:=⟨#[]⟩) (Ds _);have HF:=hid hF;have HBW:=hid hB;clear hi hF hB haf hun hs hlt;refine DP rfl ?_;intro K' hK';unfold FR
    go_simp
    refine hK' _ _ ?_;exact JR.entry (k:=2) (by simp [FR,x1,x5,e18]) HF.out (HBW.out.grown rG HBW.out.size (fun g hg=>by cases hg;exact eb)) x1 x5 (fun _=>rJ) rO (by intro j hj;unfold keyF;split <;> first | decide | exact absurd rfl hj) ⟨fB q0,rR⟩
   ·obtain rfl:=Dr hi;have HF:=hid hF;have HBW:=hid hB;clear hi hF hB haf hun hs hlt;refine DP rfl ?_;intro K' hK';unfold FR
    go_simp
    refine hK' _ _ ?_;exact JR.slot 20 (.pointer (some ⟨w.heap.size,5,none⟩)) (by simp [FR,upd,x1,x5]) HF.out HBW.out x1 x5 id (fun _ _ h=>h) (by decide) (by intro j hj;unfold bA;split <;> first | decide | exact absurd rfl hj) (ci _ _ _)
   ·obtain rfl:=Dr hi;have q4:L.getD 4 false=true:=haf ⟨4,.data⟩ (by simp) rfl;have e20:x 20=.pointer (some ⟨w.heap.size,5,none⟩):=hF 4 q4;have hc:=H5.out W hB;have HF:=hid hF;have HBW:=hid hB;clear hi hF hB haf hun hs hlt;refine DP rfl ?_;intro K' hK';unfold FR
    go_simp
    refine hK' _ _ ?_;exact JR.slot 21 (.int .i64 N) (by simp [FR,upd,x1,x5,e20]) HF.out HBW.out x1 x5 id (fun _ _ h=>h) (by decide) (by intro j hj;unfold bA;split <;> first | decide | exact absurd rfl hj) (ci _ _ _)
   ·obtain rfl:=Dr hi;have q5:L.getD 5 false=true:=haf ⟨5,.data⟩ (by simp) rfl;have e21:x 21=.int .i64 N:=hF 5 q5;have HF:=hid hF;have HBW:=hid hB;clear hi hF hB haf hun hs hlt;refine DP rfl ?_;intro K' hK';unfold FR
    go_simp
    refine (Da N _ hN0 hN1).mono ?_;rintro r W' ⟨rfl,rfl⟩;refine hK' _ _ ?_;exact JR.slot 22 (.int .u64 (zigN N)) (by simp [FR,upd,x1,x5,e21]) HF.out HBW.out x1 x5 id (fun _ _ h=>h) (by decide) (by intro j hj;unfold bA;split <;> first | decide | exact absurd rfl hj) (ci _ _ _)
   ·obtain rfl:=Dr hi;have q6:L.getD 6 false=true:=haf ⟨6,.data⟩ (by simp) rfl;have e22:x 22=.int .u64 (zigN N):=hF 6 q6;have HF:=hid hF;have HBW:=hid hB;clear hi hF hB haf hun hs hlt;refine DP rfl ?_;intro K' hK';unfold FR
    go_simp
    refine (rj (zigN N) _ hz.1 hz.2).mono ?_;rintro r W' ⟨rfl,hb⟩;rw [HP3.out];refine hK' _ _ ?_;exact JR.slot 23 (.string P3) (by simp [FR,upd,x1,x5,e22]) HF.out (HBW.out.trans (hb.mono HBW.out.size)) x1 x5 (fun h=>h.below hb) (fun _ _ h=>h.below hb) (by decide) (by intro j hj;unfold bA;split <;> first | decide | exact absurd rfl hj) (ci _ _ _)
   ·obtain rfl:=Dr hi;have q0:L.getD 0 false=true:=haf ⟨0,.data⟩ (by simp) rfl;obtain ⟨e18,eJ,eb⟩:x 18=.map (some b)∧JT b W∧w2.heap.size≤b:=hF 0 q0;have q7:L.getD 7 false=true:=haf ⟨7,.data⟩ (by simp) rfl;have e23:x 23=.string P3:=hF 7 q7;obtain ⟨W',hrun,rJ,rR,rO,rG⟩:=k8 eJ (k:=3) (.inr (.inr (.inl rfl))) hm3;have HF:=hid hF;have HBW:=hid hB;clear hi hF hB haf hun hs hlt;refine DP rfl ?_;intro K' hK';unfold FR
    go_simp
    refine hK' _ _ ?_;exact JR.entry (k:=3) (by simp [FR,x1,x5,e18,e23]) HF.out (HBW.out.grown rG HBW.out.size (fun g hg=>by cases hg;exact eb)) x1 x5 (fun _=>rJ) rO (by intro j hj;unfold keyF;split <;> first | decide | exact absurd rfl hj) ⟨fB q0,rR⟩
   ·obtain rfl:=Dr hi;have HF:=hid hF;have HBW:=hid hB;clear hi hF hB haf hun hs hlt;refine DP rfl ?_;intro K' hK';unfold FR
    go_simp
    refine hK' _ _ ?_;exact JR.slot 24 (.pointer (some ⟨w.heap.size,5,none⟩)) (by simp [FR,upd,x1,x5]) HF.out HBW.out x1 x5 id (fun _ _ h=>h) (by decide) (by intro j hj;unfold bA;split <;> first | decide | exact absurd rfl hj) (ci _ _ _)
   ·obtain rfl:=Dr hi;have q9:L.getD 9 false=true:=haf ⟨9,.data⟩ (by simp) rfl;have e24:x 24=.pointer (some ⟨w.heap.size,5,none⟩):=hF 9 q9;have hc:=H5.out W hB;have HF:=hid hF;have HBW:=hid hB;clear hi hF hB haf hun hs hlt;refine DP rfl ?_;intro K' hK';unfold FR
    go_simp
    refine hK' _ _ ?_;exact JR.slot 25 (.int .i64 N) (by simp [FR,upd,x1,x5,e24]) HF.out HBW.out x1 x5 id (fun _ _ h=>h) (by decide) (by intro j hj;unfold bA;split <;> first | decide | exact absurd rfl hj) (ci _ _ _)
   ·obtain rfl:=Dr hi;have q10:L.getD 10 false=true:=haf ⟨10,.data⟩ (by simp) rfl;have e25:x 25=.int .i64 N:=hF 10 q10;have HF:=hid hF;have HBW:=hid hB;clear hi hF hB haf hun hs hlt;refine DP rfl ?_;intro K' hK';unfold FR
    go_simp
    rw [HX.out];refine hK' _ _ ?_;exact JR.slot 26 (.int .i64 X) (by simp [FR,upd,x1,x5,e25]) HF.out HBW.out x1 x5 id (fun _ _ h=>h) (by decide) (by intro j hj;unfold bA;split <;> first | decide | exact absurd rfl hj) (ci _ _ _)
   ·obtain rfl:=Dr hi;have q11:L.getD 11 false=true:=haf ⟨11,.data⟩ (by simp) rfl;have e26:x 26=.int .i64 X:=hF 11 q11;have HF:=hid hF;have HBW:=hid hB;clear hi hF hB haf hun hs hlt;refine DP rfl ?_;intro K' hK';unfold FR
    go_simp
    refine hK' _ _ ?_;exact JR.slot 27 (.int .u64 X) (by simp [FR,upd,x1,x5,e26]) HF.out HBW.out x1 x5 id (fun _ _ h=>h) (by decide) (by intro j hj;unfold bA;split <;> first | decide | exact absurd rfl hj) (ci _ _ _)
   ·obtain rfl:=Dr hi;have q12:L.getD 12 false=true:=haf ⟨12,.data⟩ (by simp) rfl;have e27:x 27=.int .u64 X:=hF 12 q12;have HF:=hid hF;have HBW:=hid hB;clear hi hF hB haf hun hs hlt;refine DP rfl ?_;intro K' hK';unfold FR
    go_simp
    refine (rj X _ hmx.1 (Int.le_trans hmx.2 (by decide))).mono ?_;rintro r W' ⟨rfl,hb⟩;rw [HP4.out];refine hK' _ _ ?_;exact JR.slot 28 (.string P4) (by simp [FR,upd,x1,x5,e27]) HF.out (HBW.out.trans (hb.mono HBW.out.size)) x1 x5 (fun h=>h.below hb) (fun _ _ h=>h.below hb) (by decide) (by intro j hj;unfold bA;split <;> first | decide | exact absurd rfl hj) (ci _ _ _)
   ·obtain rfl:=Dr hi;have HF:=hid hF;have HBW:=hid hB;clear hi hF hB haf hun hs hlt;refine DP rfl ?_;intro K' hK';unfold FR
    go_simp
    refine hK' _ _ ?_;exact JR.slot 29 (.string S) (by simp [FR,upd,x1,x5]) HF.out HBW.out x1 x5 id (fun _ _ h=>h) (by decide) (by intro j hj;unfold bA;split <;> first | decide | exact absurd rfl hj) (ci _ _ _)
   ·obtain rfl:=Dr hi;have q13:L.getD 13 false=true:=haf ⟨13,.data⟩ (by simp) rfl;have e28:x 28=.string P4:=hF 13 q13;have q14:L.getD 14 false=true:=haf ⟨14,.data⟩ (by simp) rfl;have e29:x 29=.string S:=hF 14 q14;have HF:=hid hF;have HBW:=hid hB;clear hi hF hB haf hun hs hlt;refine DP rfl ?_;intro K' hK';unfold FR
    go_simp
    refine hK' _ _ ?_;exact JR.slot 30 (.string (P4++S)) (by simp [FR,upd,x1,x5,e28,e29]) HF.out HBW.out x1 x5 id (fun _ _ h=>h) (by decide) (by intro j hj;unfold bA;split <;> first | decide | exact absurd rfl hj) (ci _ _ _)
   ·obtain rfl:=Dr hi;have q0:L.getD 0 false=true:=haf ⟨0,.data⟩ (by simp) rfl;obtain ⟨e18,eJ,eb⟩:x 18=.map (some b)∧JT b W∧w2.heap.size≤b:=hF 0 q0;have q15:L.getD 15 false=true:=haf ⟨15,.data⟩ (by simp) rfl;have e30:x 30=.string (P4++S):=hF 15 q15;obtain ⟨W',hrun,rJ,rR,rO,rG⟩:=k8 eJ (k:=4) (.inr (.inr (.inr rfl))) hm4;have HF:=hid hF;have HBW:=hid hB;clear hi hF hB haf hun hs hlt;refine DP rfl ?_;intro K' hK';unfold FR
    go_simp
    refine hK' _ _ ?_;exact JR.entry (k:=4) (by simp [FR,x1,x5,e18,e30]) HF.out (HBW.out.grown rG HBW.out.size (fun g hg=>by cases hg;exact eb)) x1 x5 (fun _=>rJ) rO (by intro j hj;unfold keyF;split <;> first | decide | exact absurd rfl hj) ⟨fB q0,rR⟩
   ·obtain rfl:=Dr hi;have hall:∀ j,j<17→L.getD j false=true:=fun j hj=>haf ⟨j,.data⟩ (by rcases (show j=0∨j=1∨j=2∨j=3∨j=4∨j=5∨j=6∨j=7∨j=8∨j=9∨j=10∨j=11∨j=12∨j=13∨j=14∨j=15∨j=16 by omega) with rfl | rfl | rfl | rfl | rfl | rfl | rfl | rfl | rfl | rfl | rfl | rfl | rfl | rfl | rfl | rfl | rfl <;> simp) rfl
    have q0:L.getD 0 false=true:=haf ⟨0,.data⟩ (by simp) rfl;obtain ⟨e18,eJ,eb⟩:x 18=.map (some b)∧JT b W∧w2.heap.size≤b:=hF 0 q0;have HF:=hid hF;have HBW:=hid hB;clear hi hF hB haf hun hs hlt;refine DP rfl ?_;intro K' hK';unfold FR
    go_simp
    refine hK' _ _ ?_;exact JR.slot 31 (.map (some b)) (by simp [FR,upd,x1,x5,e18]) HF.out HBW.out x1 x5 id (fun _ _ h=>h) (by decide) (by intro j hj;unfold bA;split <;> first | decide | exact absurd rfl hj) ⟨ci _ _ _,fun j hj=>fB (hall j hj)⟩
   ·obtain rfl:=Dr hi;have HF:=hid hF;have HBW:=hid hB;clear hi hF hB haf hun hs hlt;refine DP rfl ?_;intro K' hK';unfold FR
    go_simp
    refine hK' _ _ ?_;exact JR.slot 32 (.pointer (some ⟨w.heap.size,2,none⟩)) (by simp [FR,upd,x1,x5]) HF.out HBW.out x1 x5 id (fun _ _ h=>h) (by decide) (by intro j hj;unfold bA;split <;> first | decide | exact absurd rfl hj) (ci _ _ _)
   ·obtain rfl:=Dr hi;have q18:L.getD 18 false=true:=haf ⟨18,.data⟩ (by simp) rfl;have e32:x 32=.pointer (some ⟨w.heap.size,2,none⟩):=hF 18 q18;have hc:=H2.out W hB;have HF:=hid hF;have HBW:=hid hB;clear hi hF hB haf hun hs hlt;refine DP rfl ?_;intro K' hK';unfold FR
    go_simp
    refine hK' _ _ ?_;exact JR.slot 33 (.int .i64 K) (by simp [FR,upd,x1,x5,e32]) HF.out HBW.out x1 x5 id (fun _ _ h=>h) (by decide) (by intro j hj;unfold bA;split <;> first | decide | exact absurd rfl hj) (ci _ _ _)
   ·obtain rfl:=Dr hi;have q17:L.getD 17 false=true:=haf ⟨17,.data⟩ (by simp) rfl;obtain ⟨e31,hall⟩:x 31=.map (some b)∧∀ j,j<17→L.getD j false=true:=hF 17 q17;have q19:L.getD 19 false=true:=haf ⟨19,.data⟩ (by simp) rfl;have e33:x 33=.int .i64 K:=hF 19 q19;have r1:L.getD 0 false=true∧RT b W 1 S:=hF 2 (hall 2 (by decide));have r2:L.getD 0 false=true∧RT b W 2 ⟨#[]⟩:=hF 3 (hall 3 (by decide));have r3:L.getD 0 false=true∧RT b W 3 P3:=hF 8 (hall 8 (by decide));have r4:L.getD 0 false=true∧RT b W 4 (P4++S):=hF 16 (hall 16 (by decide));have hrun:=xw (Bd r1.2 r2.2 r3.2 r4.2 HAT.out) HKB.out;have HF:=hid hF;have HBW:=hid hB;clear hi hF hB haf hun hs hlt;refine DP rfl ?_;intro K' hK';unfold FR
    go_simp
    refine hK' _ _ ?_;exact JR.slot 34 (.string (b7 K val N)) (by simp [FR,upd,x1,x5,e31,e33]) HF.out HBW.out x1 x5 id (fun _ _ h=>h) (by decide) (by intro j hj;unfold bA;split <;> first | decide | exact absurd rfl hj) (ci _ _ _)
   ·obtain rfl:=Dr hi;have q20:L.getD 20 false=true:=haf ⟨20,.data⟩ (by simp) rfl;have e34:x 34=.string (b7 K val N):=hF 20 q20;have HF:=hid hF;have HBW:=hid hB;clear hi hF hB haf hun hs hlt;refine DP rfl ?_;intro K' hK';unfold FR
    go_simp
    refine hK' _ _ ?_;exact JR.slot 2 (.string (b7 K val N)) (by simp [FR,upd,x1,x5,e34]) HF.out HBW.out x1 x5 id (fun _ _ h=>h) (by decide) (by intro j hj;unfold bA;split <;> first | decide | exact absurd rfl hj) (ci _ _ _)
   ·obtain rfl:=Dr hi;have HF:=hid hF;have HBW:=hid hB;clear hi hF hB haf hun hs hlt;refine DP rfl ?_;intro K' hK';unfold FR
    go_simp
    refine hK' _ _ ?_;exact JR.slot 3 (.int .i64 0) (by simp [FR,upd,x1,x5]) HF.out HBW.out x1 x5 id (fun _ _ h=>h) (by decide) (by intro j hj;unfold bA;split <;> first | decide | exact absurd rfl hj) (ci _ _ _)
 ·have hne:((E:Int) != 0)=true:=by simp;omega
  have HT:=hid (rV (by rw [HE.out];exact h0));go_wp2;go_ret2;rw [HT.out,HE.out];exact ⟨rfl,HB1.out⟩
end
