import Derived.Test.YtagoidpkbloflaaGreatDoorKlq
import Derived.Test.YtagoidpkbloflaaGreatDoorKl03
namespace Go.Proofs.YtagoidpkbloflaaGreatDoor
open Lib (hid)
set_option maxRecDepth 100000
set_option maxHeartbeats 8000000
open Go.RowKit
theorem gv (v:Value) (l:List Tok) (w:World) (hv:bX w v l) (hl:l.length≤9223372036854775807) (hz:∀ t∈l,t.own.size≤140737488351232) :
 Calls Tryz.prog 84 #[v] w fun e w'=>e=.returned (bH (a8 l 0 0))∧Below w.heap.size w w':=by
 obtain ⟨a1,c1,rfl,f1⟩:=hv.form;have F1:=hid f1;have HZ:=hid hz;obtain ⟨n,hn⟩:∃ n,n=l.length:=⟨_,rfl⟩;rw [←hn] at hl ⊢;have HN:=hid hn;clear hv f1 hn hz;go_enter Tryz.func84,Tryz.ntmps84
 go_wp2
 go_loopw [3,8] (fun s i wr=>∃ k a:Nat,k≤n∧i=.int .i64 k∧s=.int .i64 a∧a≤20000∧a8 l 0 0=a8 (l.drop k) k a∧Below (w.heap.size+1) (w.alloc (.cells #[.int .i64 0,.int .i64 0] 28)) wr) (fun _ i _=>n-(intOf i).toNat)
 case atStart=>exact ⟨0,0,by omega,rfl,rfl,by omega,rfl,Below.refl _ _⟩
 case round =>
  obtain ⟨k,a,hk,rfl,rfl,ha,heq,hbel⟩:=hrel;have HEQ:=hid heq;have HB:=hid hbel;have x0:wr.cell? ⟨w.heap.size,0,none⟩=some (.int .i64 0):=(hbel.cell (by exact Du _)).trans (by simp);have x1:wr.cell? ⟨w.heap.size,1,none⟩=some (.int .i64 0):=(hbel.cell (by exact Du _)).trans (by simp);have y0:wr.frozen? ⟨w.heap.size,0,none⟩=false:=(hbel.frozen (by exact Du _)).trans (by simp);have y1:wr.frozen? ⟨w.heap.size,1,none⟩=false:=(hbel.frozen (by exact Du _)).trans (by simp);have hzr:=hbel.size;rw [DE] at hzr;have HB0:Hid (Below w.heap.size w wr):=((Below.refl _ _).alloc (Db _) _).trans (HB.out.mono (Dq _));clear heq hbel;by_cases hlt:k<n
  ·have hkl:k<l.length:=by have:=HN.out;omega
   obtain ⟨t,ht⟩:∃ t,l[k]? = some t:=⟨l[k],Di hkl⟩;obtain ⟨b1,o1,rfl,hb1,p0,p1,p2⟩:=F1.out k t ht;have hd:l.drop k=t::l.drop (k+1):=by
    rw [DA hkl];congr 1;rw [Di hkl] at ht;exact Dr ht
   have hmem:t∈l:=DB ht;have hos:=HZ.out t hmem;obtain ⟨s,b,z⟩:=t;simp only at p0 p1 p2 hos
   have q0:=(HB0.out.cell (p:=⟨b1,o1+k * 3,none⟩) hb1).trans p0;have q1:=(HB0.out.cell (p:=⟨b1,o1+k * 3+1,none⟩) hb1).trans p1;have q2:=(HB0.out.cell (p:=⟨b1,o1+k * 3+2,none⟩) hb1).trans p2;have HD:=hid hd;have hlt0:w.heap.size<wr.heap.size:=by omega
   clear p0 p1 p2 ht hmem hd hkl;by_cases h0:s.size=0
   ·have e1:=lR h0;have e2:(!s.toList.isEmpty)=false:=by rw [e1];rfl
    by_cases hzb:z=0∧b=0
    ·have HW : Hid (a8 l 0 0 = (1, (k : Int))) := by
      have hw:ap ⟨s,b,z⟩ a=1:=by unfold ap;rw [if_pos h0,if_pos hzb]
      have h:a8 l 0 0=(1,(k:Int)):=by rw [HEQ.out,HD.out,ez (by rw [hw];decide),hw]
      exact h
     obtain ⟨rfl,rfl⟩:=hzb;clear h0 hos HEQ;go_wp2;refine Dc (v:=.agg #[.int .i64 1,.int .i64 k]) (by simp [results,Tryz.results84,go_sem,x0,x1,hlt0]) rfl ?_;rw [HW.out];exact ⟨rfl,((HB0.out.setCell (Db _) _).setCell (Db _) _).alloc (by simp;omega) _⟩
    ·by_cases hy:z<4∨67<z∨b<1∨1024<b
     ·have HW : Hid (a8 l 0 0 = (2, (k : Int))) := by
       have hw:ap ⟨s,b,z⟩ a=2:=by unfold ap;rw [if_pos h0,if_neg hzb,if_pos hy]
       have h:a8 l 0 0=(2,(k:Int)):=by rw [HEQ.out,HD.out,ez (by rw [hw];decide),hw]
       exact h
      have HY:=hid hy;clear hy;by_cases hz0:z=0
      ·have d1:(z == 0)=true:=by simpa using hz0
       have d1':(z != 0)=false:=by simpa using hz0
       have d2:(b == 0)=false:=by simp;omega
       have d2':(b != 0)=true:=by simp;omega
       clear h0 hos HEQ hzb hz0;rcases HY.out with hy | hy | hy | hy
       ·go_wp2_with fail
        refine (bV z 4 67 _ hy).mono ?_;rintro r w' ⟨rfl,rfl⟩;go_wp2;refine Dc (v:=.agg #[.int .i64 2,.int .i64 k]) (by simp [results,Tryz.results84,go_sem,x0,x1,hlt0]) rfl ?_;rw [HW.out];exact ⟨rfl,((HB0.out.setCell (Db _) _).setCell (Db _) _).alloc (by simp;omega) _⟩
       ·have hy4:4≤z:=by omega
        go_wp2_with fail
        refine (bU z 4 67 _ hy4 hy).mono ?_;rintro r w' ⟨rfl,rfl⟩;go_wp2;refine Dc (v:=.agg #[.int .i64 2,.int .i64 k]) (by simp [results,Tryz.results84,go_sem,x0,x1,hlt0]) rfl ?_;rw [HW.out];exact ⟨rfl,((HB0.out.setCell (Db _) _).setCell (Db _) _).alloc (by simp;omega) _⟩
       ·by_cases hzr':4≤z∧z≤67
        ·go_wp2_with fail
         refine (aQ z 4 67 _ hzr'.1 hzr'.2).mono ?_;rintro r w' ⟨rfl,rfl⟩;go_wp2_with fail
         refine (bV b 1 1024 _ hy).mono ?_;rintro r w' ⟨rfl,rfl⟩;go_wp2;refine Dc (v:=.agg #[.int .i64 2,.int .i64 k]) (by simp [results,Tryz.results84,go_sem,x0,x1,hlt0]) rfl ?_;rw [HW.out];exact ⟨rfl,((HB0.out.setCell (Db _) _).setCell (Db _) _).alloc (by simp;omega) _⟩
        ·by_cases hzl:z<4
         ·go_wp2_with fail
          refine (bV z 4 67 _ hzl).mono ?_;rintro r w' ⟨rfl,rfl⟩;go_wp2;refine Dc (v:=.agg #[.int .i64 2,.int .i64 k]) (by simp [results,Tryz.results84,go_sem,x0,x1,hlt0]) rfl ?_;rw [HW.out];exact ⟨rfl,((HB0.out.setCell (Db _) _).setCell (Db _) _).alloc (by simp;omega) _⟩
         ·go_wp2_with fail
          refine (bU z 4 67 _ (by omega) (by omega)).mono ?_;rintro r w' ⟨rfl,rfl⟩;go_wp2;refine Dc (v:=.agg #[.int .i64 2,.int .i64 k]) (by simp [results,Tryz.results84,go_sem,x0,x1,hlt0]) rfl ?_;rw [HW.out];exact ⟨rfl,((HB0.out.setCell (Db _) _).setCell (Db _) _).alloc (by simp;omega) _⟩
       ·by_cases hzr':4≤z∧z≤67
        ·go_wp2_with fail
         refine (aQ z 4 67 _ hzr'.1 hzr'.2).mono ?_;rintro r w' ⟨rfl,rfl⟩;go_wp2_with fail
         refine (bU b 1 1024 _ (by omega) hy).mono ?_;rintro r w' ⟨rfl,rfl⟩;go_wp2;refine Dc (v:=.agg #[.int .i64 2,.int .i64 k]) (by simp [results,Tryz.results84,go_sem,x0,x1,hlt0]) rfl ?_;rw [HW.out];exact ⟨rfl,((HB0.out.setCell (Db _) _).setCell (Db _) _).alloc (by simp;omega) _⟩
        ·by_cases hzl:z<4
         ·go_wp2_with fail
          refine (bV z 4 67 _ hzl).mono ?_;rintro r w' ⟨rfl,rfl⟩;go_wp2;refine Dc (v:=.agg #[.int .i64 2,.int .i64 k]) (by simp [results,Tryz.results84,go_sem,x0,x1,hlt0]) rfl ?_;rw [HW.out];exact ⟨rfl,((HB0.out.setCell (Db _) _).setCell (Db _) _).alloc (by simp;omega) _⟩
         ·go_wp2_with fail
          refine (bU z 4 67 _ (by omega) (by omega)).mono ?_;rintro r w' ⟨rfl,rfl⟩;go_wp2;refine Dc (v:=.agg #[.int .i64 2,.int .i64 k]) (by simp [results,Tryz.results84,go_sem,x0,x1,hlt0]) rfl ?_;rw [HW.out];exact ⟨rfl,((HB0.out.setCell (Db _) _).setCell (Db _) _).alloc (by simp;omega) _⟩
      ·have d1:(z == 0)=false:=by simpa using hz0
       have d1':(z != 0)=true:=by simpa using hz0
       clear h0 hos HEQ hzb hz0;rcases HY.out with hy | hy | hy | hy
       ·go_wp2_with fail
        refine (bV z 4 67 _ hy).mono ?_;rintro r w' ⟨rfl,rfl⟩;go_wp2;refine Dc (v:=.agg #[.int .i64 2,.int .i64 k]) (by simp [results,Tryz.results84,go_sem,x0,x1,hlt0]) rfl ?_;rw [HW.out];exact ⟨rfl,((HB0.out.setCell (Db _) _).setCell (Db _) _).alloc (by simp;omega) _⟩
       ·have hy4:4≤z:=by omega
        go_wp2_with fail
        refine (bU z 4 67 _ hy4 hy).mono ?_;rintro r w' ⟨rfl,rfl⟩;go_wp2;refine Dc (v:=.agg #[.int .i64 2,.int .i64 k]) (by simp [results,Tryz.results84,go_sem,x0,x1,hlt0]) rfl ?_;rw [HW.out];exact ⟨rfl,((HB0.out.setCell (Db _) _).setCell (Db _) _).alloc (by simp;omega) _⟩
       ·by_cases hzr':4≤z∧z≤67
        ·go_wp2_with fail
         refine (aQ z 4 67 _ hzr'.1 hzr'.2).mono ?_;rintro r w' ⟨rfl,rfl⟩;go_wp2_with fail
         refine (bV b 1 1024 _ hy).mono ?_;rintro r w' ⟨rfl,rfl⟩;go_wp2;refine Dc (v:=.agg #[.int .i64 2,.int .i64 k]) (by simp [results,Tryz.results84,go_sem,x0,x1,hlt0]) rfl ?_;rw [HW.out];exact ⟨rfl,((HB0.out.setCell (Db _) _).setCell (Db _) _).alloc (by simp;omega) _⟩
        ·by_cases hzl:z<4
         ·go_wp2_with fail
          refine (bV z 4 67 _ hzl).mono ?_;rintro r w' ⟨rfl,rfl⟩;go_wp2;refine Dc (v:=.agg #[.int .i64 2,.int .i64 k]) (by simp [results,Tryz.results84,go_sem,x0,x1,hlt0]) rfl ?_;rw [HW.out];exact ⟨rfl,((HB0.out.setCell (Db _) _).setCell (Db _) _).alloc (by simp;omega) _⟩
         ·go_wp2_with fail
          refine (bU z 4 67 _ (by omega) (by omega)).mono ?_;rintro r w' ⟨rfl,rfl⟩;go_wp2;refine Dc (v:=.agg #[.int .i64 2,.int .i64 k]) (by simp [results,Tryz.results84,go_sem,x0,x1,hlt0]) rfl ?_;rw [HW.out];exact ⟨rfl,((HB0.out.setCell (Db _) _).setCell (Db _) _).alloc (by simp;omega) _⟩
       ·by_cases hzr':4≤z∧z≤67
        ·go_wp2_with fail
         refine (aQ z 4 67 _ hzr'.1 hzr'.2).mono ?_;rintro r w' ⟨rfl,rfl⟩;go_wp2_with fail
         refine (bU b 1 1024 _ (by omega) hy).mono ?_;rintro r w' ⟨rfl,rfl⟩;go_wp2;refine Dc (v:=.agg #[.int .i64 2,.int .i64 k]) (by simp [results,Tryz.results84,go_sem,x0,x1,hlt0]) rfl ?_;rw [HW.out];exact ⟨rfl,((HB0.out.setCell (Db _) _).setCell (Db _) _).alloc (by simp;omega) _⟩
        ·by_cases hzl:z<4
         ·go_wp2_with fail
          refine (bV z 4 67 _ hzl).mono ?_;rintro r w' ⟨rfl,rfl⟩;go_wp2;refine Dc (v:=.agg #[.int .i64 2,.int .i64 k]) (by simp [results,Tryz.results84,go_sem,x0,x1,hlt0]) rfl ?_;rw [HW.out];exact ⟨rfl,((HB0.out.setCell (Db _) _).setCell (Db _) _).alloc (by simp;omega) _⟩
         ·go_wp2_with fail
          refine (bU z 4 67 _ (by omega) (by omega)).mono ?_;rintro r w' ⟨rfl,rfl⟩;go_wp2;refine Dc (v:=.agg #[.int .i64 2,.int .i64 k]) (by simp [results,Tryz.results84,go_sem,x0,x1,hlt0]) rfl ?_;rw [HW.out];exact ⟨rfl,((HB0.out.setCell (Db _) _).setCell (Db _) _).alloc (by simp;omega) _⟩
     ·have h4:4≤z:=by omega
      have h5:z≤67:=by omega
      have h6:1≤b:=by omega
      have h7:b≤1024:=by omega
      have d1:(z == 0)=false:=by simp;omega
      have d1':(z != 0)=true:=by simp;omega
      obtain ⟨z,rfl⟩:=DS (show 0≤z by omega);by_cases h8:(a:Int)<b
      ·have HW : Hid (a8 l 0 0 = (7, (k : Int))) := by
        have hw:ap ⟨s,b,z⟩ a=7:=by unfold ap;rw [if_pos h0,if_neg hzb,if_neg hy,if_pos h8]
        have h:a8 l 0 0=(7,(k:Int)):=by rw [HEQ.out,HD.out,ez (by rw [hw];decide),hw]
        exact h
       clear h0 hos HEQ hzb hy;go_wp2_with fail
       refine (aQ z 4 67 _ h4 h5).mono ?_;rintro r w' ⟨rfl,rfl⟩;go_wp2_with fail
       refine (aQ b 1 1024 _ h6 h7).mono ?_;rintro r w' ⟨rfl,rfl⟩;go_wp2;refine Dc (v:=.agg #[.int .i64 7,.int .i64 k]) (by simp [results,Tryz.results84,go_sem,x0,x1,hlt0]) rfl ?_;rw [HW.out];exact ⟨rfl,((HB0.out.setCell (Db _) _).setCell (Db _) _).alloc (by simp;omega) _⟩
      ·by_cases h9:20000<(a:Int)+z
       ·have HW : Hid (a8 l 0 0 = (4, (k : Int))) := by
         have hw:ap ⟨s,b,z⟩ a=4:=by unfold ap;rw [if_pos h0,if_neg hzb,if_neg hy,if_neg h8,if_pos h9]
         have h:a8 l 0 0=(4,(k:Int)):=by rw [HEQ.out,HD.out,ez (by rw [hw];decide),hw]
         exact h
        clear h0 hos HEQ hzb hy;go_wp2_with fail
        refine (aQ z 4 67 _ h4 h5).mono ?_;rintro r w' ⟨rfl,rfl⟩;go_wp2_with fail
        refine (aQ b 1 1024 _ h6 h7).mono ?_;rintro r w' ⟨rfl,rfl⟩;go_wp2;refine Dc (v:=.agg #[.int .i64 4,.int .i64 k]) (by simp [results,Tryz.results84,go_sem,x0,x1,hlt0]) rfl ?_;rw [HW.out];exact ⟨rfl,((HB0.out.setCell (Db _) _).setCell (Db _) _).alloc (by simp;omega) _⟩
       ·have HW : Hid (a8 l 0 0 = a8 (l.drop (k + 1)) (k + 1) (a + z)) := by
         have hw:ap ⟨s,b,z⟩ a=0:=by unfold ap;rw [if_pos h0,if_neg hzb,if_neg hy,if_neg h8,if_neg h9]
         have hl:lenT ⟨s,b,z⟩=z:=by show s.size+(z:Int).toNat=z;omega
         have h:a8 l 0 0=a8 (l.drop (k+1)) (k+1) (a+z):=by rw [HEQ.out,HD.out,eA hw,hl]
         exact h
        clear h0 hos HEQ hzb hy;go_wp2_with fail
        refine (aQ z 4 67 _ h4 h5).mono ?_;rintro r w' ⟨rfl,rfl⟩;go_wp2_with fail
        refine (aQ b 1 1024 _ h6 h7).mono ?_;rintro r w' ⟨rfl,rfl⟩;go_wp2;go_roundw
        case rel=>exact ⟨k+1,a+z,by omega,by go_num,by go_num,by omega,HW.out,HB.out.alloc (by omega) _⟩
        case measure=>simp [intOf];omega
   ·have e1:=m3 h0;have e2:(!s.toList.isEmpty)=true:=by rw [e1];rfl
    by_cases hy:z≠0∨b≠0
    ·have HW : Hid (a8 l 0 0 = (1, (k : Int))) := by
      have hw:ap ⟨s,b,z⟩ a=1:=by unfold ap;rw [if_neg h0,if_pos hy]
      have h:a8 l 0 0=(1,(k:Int)):=by rw [HEQ.out,HD.out,ez (by rw [hw];decide),hw]
      exact h
     by_cases hz0:z=0
     ·have d1':(z != 0)=false:=by simpa using hz0
      have d2':(b != 0)=true:=by simp;omega
      clear h0 hos HEQ hy hz0;go_wp2;refine Dc (v:=.agg #[.int .i64 1,.int .i64 k]) (by simp [results,Tryz.results84,go_sem,x0,x1,hlt0]) rfl ?_;rw [HW.out];exact ⟨rfl,((HB0.out.setCell (Db _) _).setCell (Db _) _).alloc (by simp;omega) _⟩
     ·have d1':(z != 0)=true:=by simpa using hz0
      clear h0 hos HEQ hy hz0;go_wp2;refine Dc (v:=.agg #[.int .i64 1,.int .i64 k]) (by simp [results,Tryz.results84,go_sem,x0,x1,hlt0]) rfl ?_;rw [HW.out];exact ⟨rfl,((HB0.out.setCell (Db _) _).setCell (Db _) _).alloc (by simp;omega) _⟩
    ·obtain ⟨hz0,hb0⟩:z=0∧b=0:=by omega
     by_cases h9:20000<a+s.size
     ·have HW : Hid (a8 l 0 0 = (4, (k : Int))) := by
       have hw:ap ⟨s,b,z⟩ a=4:=by unfold ap;rw [if_neg h0,if_neg hy,if_pos h9]
       have h:a8 l 0 0=(4,(k:Int)):=by rw [HEQ.out,HD.out,ez (by rw [hw];decide),hw]
       exact h
      have h10:20000<(a:Int)+(s.size:Int):=by omega
      clear h0 HEQ hy h9;subst hz0 hb0;go_wp2;refine Dc (v:=.agg #[.int .i64 4,.int .i64 k]) (by simp [results,Tryz.results84,go_sem,x0,x1,hlt0]) rfl ?_;rw [HW.out];exact ⟨rfl,((HB0.out.setCell (Db _) _).setCell (Db _) _).alloc (by simp;omega) _⟩
     ·have HW : Hid (a8 l 0 0 = a8 (l.drop (k + 1)) (k + 1) (a + s.size)) := by
       have hw:ap ⟨s,b,z⟩ a=0:=by unfold ap;rw [if_neg h0,if_neg hy,if_neg h9]
       have hl:lenT ⟨s,b,z⟩=s.size:=by show s.size+z.toNat=s.size;omega
       have h:a8 l 0 0=a8 (l.drop (k+1)) (k+1) (a+s.size):=by rw [HEQ.out,HD.out,eA hw,hl]
       exact h
      have h10:¬ 20000<(a:Int)+(s.size:Int):=by omega
      clear h0 HEQ hy;subst hz0 hb0;go_wp2;go_roundw
      case rel=>exact ⟨k+1,a+s.size,by omega,by go_num,by go_num,by omega,HW.out,HB.out.alloc (by omega) _⟩
      case measure=>simp [intOf];omega
  ·have HW : Hid (a8 l 0 0 = (0, -1)) := by
    have h:a8 l 0 0=(0,-1):=by rw [HEQ.out,DD (by have:=HN.out;omega)];rfl
    exact h
   have hlt0:w.heap.size<wr.heap.size:=by omega
   clear HEQ;go_wp2_with fail
   refine (dF _).mono ?_;rintro r w1 ⟨rfl,hb1⟩;have d0:w1.cell? ⟨w.heap.size,0,none⟩=some (.int .i64 0):=(hb1.cell hlt0).trans x0;have d1:w1.cell? ⟨w.heap.size,1,none⟩=some (.int .i64 0):=(hb1.cell hlt0).trans x1;have g0:w1.frozen? ⟨w.heap.size,0,none⟩=false:=(hb1.frozen hlt0).trans y0;have g1:w1.frozen? ⟨w.heap.size,1,none⟩=false:=(hb1.frozen hlt0).trans y1;have HBW:Hid (Below w.heap.size w w1):=HB0.out.trans (hb1.mono (DG hlt0));clear hb1 x0 x1 y0 y1;go_wp2;refine Dc (v:=.agg #[.int .i64 0,.int .i64 (-1)]) (by simp [results,Tryz.results84,go_sem,d0,d1]) rfl ?_;rw [HW.out];exact ⟨rfl,(HBW.out.setCell (Db _) _).setCell (Db _) _⟩
