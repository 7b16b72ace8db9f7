import Derived.Test.YtdhognaoejiglaaGreatDoorKb18
import Derived.Test.YtdhognaoejiglaaGreatDoorKb17
namespace Go.Proofs.YtdhognaoejiglaaGreatDoor
open Lib (hid)
set_option maxRecDepth 100000
set_option maxHeartbeats 8000000
section
open Go.RowKit
theorem qh (l:List UInt8):intL l 1023=bkL l:=by
 unfold intL bkL;by_cases h:(getL l).2.2≠0
 ·rw [if_pos h,if_pos h]
 ·rw [if_neg h,if_neg h];by_cases h2:1023<(getL l).1
  ·rw [if_pos (by omega),if_pos h2]
  ·rw [if_neg (by omega),if_neg h2]
def jP (w:World) (e:Nat) (pl:Int) (r:Ending) (w':World):Prop :=
 ∃ err,r=.returned (.tuple #[.agg #[.string ⟨#[]⟩,.int .i64 0,.int .i64 0],.int .i64 0,err])∧atIs w' err (e,pl)∧Below w.heap.size w w'
theorem ja (v:Value) (e:Nat) (pl:Int) (w:World) (hg:errT w) (hv:isErr w v e) (he:e≠0) :
 Calls Tryz.prog 221 #[v,.int .i64 pl] w (jP w e pl):=by
 have HG:=hid (hg.alloc (.cells #[.string ⟨#[]⟩,.int .i64 0,.int .i64 0] 237));have HV:=hid (hv.alloc (.cells #[.string ⟨#[]⟩,.int .i64 0,.int .i64 0] 237));clear hg hv;go_enter Tryz.func221,Tryz.ntmps221
 go_wp2_with fail
 refine (dM v e _ HG.out HV.out).mono ?_;rintro r w1 ⟨rfl,hb1⟩;have hl:w.heap.size<w1.heap.size:=Nat.lt_of_lt_of_le (by simp) hb1.size;have d0:w1.cell? ⟨w.heap.size,0,none⟩=some (.string ⟨#[]⟩):=(hb1.cell (by simp)).trans (by simp);have d1:w1.cell? ⟨w.heap.size,1,none⟩=some (.int .i64 0):=(hb1.cell (by simp)).trans (by simp);have d2:w1.cell? ⟨w.heap.size,2,none⟩=some (.int .i64 0):=(hb1.cell (by simp)).trans (by simp);have g0:w1.frozen? ⟨w.heap.size,0,none⟩=false:=(hb1.frozen (by simp)).trans (by simp);have g1:w1.frozen? ⟨w.heap.size,1,none⟩=false:=(hb1.frozen (by simp)).trans (by simp);have g2:w1.frozen? ⟨w.heap.size,2,none⟩=false:=(hb1.frozen (by simp)).trans (by simp);have HB1:Hid (Below w.heap.size w w1):=((Below.refl _ _).alloc (Nat.le_refl _) _).trans (hb1.mono (by simp));have HE:=hid he;clear hb1 he;go_wp2;obtain ⟨W3,hW3⟩:∃ W3,((w1.setCell ⟨w.heap.size,0,none⟩ (.string ⟨#[]⟩)).setCell ⟨w.heap.size,1,none⟩ (.int .i64 0)).setCell ⟨w.heap.size,2,none⟩ (.int .i64 0)=W3:=⟨_,rfl⟩;rw [hW3];have z3:W3.heap.size=w1.heap.size:=by rw [←hW3];simp
 have HB3:Hid (Below w.heap.size w W3):=by rw [←hW3];exact ((HB1.out.setCell (Nat.le_refl _) _).setCell (Nat.le_refl _) _).setCell (Nat.le_refl _) _
 have e0:W3.cell? ⟨w.heap.size,0,none⟩=some (.string ⟨#[]⟩):=by rw [←hW3];simp [go_sem,d0]
 have e1:W3.cell? ⟨w.heap.size,1,none⟩=some (.int .i64 0):=by rw [←hW3];simp [go_sem,d1]
 have e2:W3.cell? ⟨w.heap.size,2,none⟩=some (.int .i64 0):=by rw [←hW3];simp [go_sem,d2]
 have hl3:w.heap.size<W3.heap.size:=by omega
 have n3:(W3.alloc (.cells #[.int .i64 e,.int .i64 pl] 86)).heap[w1.heap.size]? = some (.cells #[.int .i64 e,.int .i64 pl] 86 (0,0)):=by rw [←z3];exact heap_alloc_new _ _
 have q0:=(World.cell?_alloc_lt W3 (.cells #[.int .i64 e,.int .i64 pl] 86) (⟨w.heap.size,0,none⟩:Addr) hl3).trans e0;have q1:=(World.cell?_alloc_lt W3 (.cells #[.int .i64 e,.int .i64 pl] 86) (⟨w.heap.size,1,none⟩:Addr) hl3).trans e1;have q2:=(World.cell?_alloc_lt W3 (.cells #[.int .i64 e,.int .i64 pl] 86) (⟨w.heap.size,2,none⟩:Addr) hl3).trans e2;refine bodyPost_ret (v:=.tuple #[.agg #[.string ⟨#[]⟩,.int .i64 0,.int .i64 0],.int .i64 0,.iface 84 (.pointer (some ⟨w1.heap.size,0,none⟩))]) (by simp [results,Tryz.results221,go_sem,q0,q1,q2]) rfl ?_;exact ⟨_,rfl,.inr ⟨HE.out,w1.heap.size,rfl,by simp;omega,cell_of_row _ _ 0 _ _ (0,0) n3,cell_of_row _ _ 1 _ _ (0,0) n3⟩,HB3.out.alloc (by omega) _⟩
def mq (w:World) (a:Nat) (r:(Nat×Nat) ⊕ (Tok×Nat)) (e:Ending) (w':World):Prop :=
 match r with
 | .inl (er,p)=>jP w er ((a+p:Nat):Int) e w'
 | .inr (t,k)=>e=.returned (.tuple #[tokV t,.int .i64 ((a+k:Nat):Int),.nilIface])∧Below w.heap.size w w'
theorem qO (s:ByteArray) (a:Nat):(s.extract a s.size).data.toList=s.data.toList.drop a:=by
 rw [fX,List.take_of_length_le (by rw [←aj];exact Nat.le_refl _)]
theorem Ad (s:ByteArray) (w:World) (hs:s.size≤maxLen) (e:Nat) (h:bkL s.data.toList=(0,0,e)) (he:e≠0) :
 Calls Tryz.prog 155 #[.string s,.int .i64 1023] w fun r w'=>r=.returned (.tuple #[.int .i64 0,.int .i64 0,.iface 68 (.int .i64 e)])∧w=w' :=
 (gd s 1023 w hs (by omega) (by omega)).mono fun r w' ⟨h1,h2⟩=>⟨h1.trans (by rw [qh,h];unfold intV errV;rw [if_neg he];rfl),h2⟩
theorem Ae (s:ByteArray) (w:World) (hs:s.size≤maxLen) (n k:Nat) (h:bkL s.data.toList=(n,k,0)) :
 Calls Tryz.prog 155 #[.string s,.int .i64 1023] w fun r w'=>r=.returned (.tuple #[.int .i64 n,.int .i64 k,.nilIface])∧w=w' :=
 (gd s 1023 w hs (by omega) (by omega)).mono fun r w' ⟨h1,h2⟩=>⟨h1.trans (by rw [qh,h];rfl),h2⟩
theorem iU {a:Nat} {p:Int} {b:Nat} (h:((a+b:Nat):Int)=p) (e:Nat) (w:World) (r:Ending) (w':World) (hw:jP w e p r w'):mq w a (.inl (e,b)) r w':=by
 show jP w e ((a+b:Nat):Int) r w'
 rw [h];exact hw
theorem rH {a:Nat} {p:Int} {b:Nat} {t:Tok} {v:Value} (h:((a+b:Nat):Int)=p) (hv:tokV t=v) (w:World) (r:Ending) (w':World) (hw:r=.returned (.tuple #[v,.int .i64 p,.nilIface])∧Below w.heap.size w w'):mq w a (.inr (t,b)) r w':=by
 show r=.returned (.tuple #[tokV t,.int .i64 ((a+b:Nat):Int),.nilIface])∧_
 rw [h,hv];exact hw
theorem atIs.set3 {w:World} {v:Value} {r:Nat×Int} {B:Nat} {s:ByteArray} (h:atIs w v r) (h0:w.cell? ⟨B,0,none⟩=some (.string s)) (x y z:Value) :
 atIs (((w.setCell ⟨B,0,none⟩ x).setCell ⟨B,1,none⟩ y).setCell ⟨B,2,none⟩ z) v r:=by
 rcases h with h | ⟨h1,b,h2,h3,h4,h5⟩
 ·exact .inl h
 ·have hne : b ≠ B := by
   intro e;subst e;rw [h4] at h0;cases h0
  have hf:∀ o,(((w.setCell ⟨B,0,none⟩ x).setCell ⟨B,1,none⟩ y).setCell ⟨B,2,none⟩ z).cell? ⟨b,o,none⟩=w.cell? ⟨b,o,none⟩:=fun o=>by
   rw [World.cell?_setCell_other _ _ _ _ (by simp),World.cell?_setCell_other _ _ _ _ (by simp),World.cell?_setCell_other _ _ _ _ (by simp)]
  exact .inr ⟨h1,b,h2,by simpa using h3,(hf 0).trans h4,(hf 1).trans h5⟩
theorem sB (s:ByteArray) (a:Nat) (w:World) (hs:s.size≤1000000) (ha:a≤s.size) (hg:errT w) :
 Calls Tryz.prog 207 #[.string s,.int .i64 (a:Int)] w (mq w a (getT (s.data.toList.drop a))):=by
 have HG0:=hid (hg.alloc (.cells #[.string ⟨#[]⟩,.int .i64 0,.int .i64 0] 237));have HD:=hid (qO s a);have hdl:(s.data.toList.drop a).length=s.size-a:=by rw [List.length_drop,←aj]
 have HM:Hid ((s.extract a s.size).size≤maxLen):=hid (show (s.extract a s.size).size≤maxLen by rw [ByteArray.size_extract];unfold maxLen;omega);have d3:(0:Int)≤(a:Int):=by omega
 have d4:(a:Int)≤(s.size:Int):=by omega
 clear hg;rcases dC (s.data.toList.drop a) with ⟨e,hg,he⟩ | ⟨n,k,hg,hn,hk1,hk2,hk3⟩
 ·rw [rE hg he];have HGL:Hid (getL (s.extract a s.size).data.toList=(0,0,e)):=hid (show getL (s.extract a s.size).data.toList=(0,0,e) by rw [HD.out];exact hg);have HE:=hid he;clear hg he hdl;go_enter Tryz.func207,Tryz.ntmps207
  go_wp2_with fail
  refine (nu _ _ HM.out e HGL.out HE.out).mono ?_;rintro r w' ⟨rfl,rfl⟩;go_wp2_with fail
  refine (ja _ e a _ HG0.out (.inl rfl) HE.out).mono ?_;rintro r w1 ⟨err,rfl,hat,hb1⟩;have HAT:=hid hat;have hl1:w.heap.size<w1.heap.size:=Nat.lt_of_lt_of_le (by simp) hb1.size;clear hat;have d0:w1.cell? ⟨w.heap.size,0,none⟩=some (.string ⟨#[]⟩):=(hb1.cell (by simp)).trans (by simp);have d1:w1.cell? ⟨w.heap.size,1,none⟩=some (.int .i64 0):=(hb1.cell (by simp)).trans (by simp);have d2:w1.cell? ⟨w.heap.size,2,none⟩=some (.int .i64 0):=(hb1.cell (by simp)).trans (by simp);have g0:w1.frozen? ⟨w.heap.size,0,none⟩=false:=(hb1.frozen (by simp)).trans (by simp);have g1:w1.frozen? ⟨w.heap.size,1,none⟩=false:=(hb1.frozen (by simp)).trans (by simp);have g2:w1.frozen? ⟨w.heap.size,2,none⟩=false:=(hb1.frozen (by simp)).trans (by simp);have HB1:Hid (Below w.heap.size w w1):=((Below.refl _ _).alloc (Nat.le_refl _) _).trans (hb1.mono (by simp));clear hb1;go_wp2;refine bodyPost_ret (v:=.tuple #[.agg #[.string ⟨#[]⟩,.int .i64 0,.int .i64 0],.int .i64 0,err]) (by simp [results,Tryz.results207,go_sem,d0,d1,d2]) rfl ?_;exact iU (by omega) _ _ _ _ ⟨_,rfl,HAT.out.set3 d0 _ _ _,((HB1.out.setCell (Nat.le_refl _) _).setCell (Nat.le_refl _) _).setCell (Nat.le_refl _) _⟩
 ·rw [hdl] at hk3;have HGL:Hid (getL (s.extract a s.size).data.toList=(n,k,0)):=hid (show getL (s.extract a s.size).data.toList=(n,k,0) by rw [HD.out];exact hg);have HEQ:Hid (a+(s.size-a)=s.size):=hid (show a+(s.size-a)=s.size by omega);by_cases h2:n % 2=0
  ·have b2:((n:Int) % 2 == 0)=true:=by simp;omega
   by_cases h0:n=0
   ·subst h0;rw [rG hg];clear hg hdl h2 b2;go_enter Tryz.func207,Tryz.ntmps207
    go_wp2_with fail
    refine (dD _ _ HM.out 0 k HGL.out).mono ?_;rintro r w' ⟨rfl,rfl⟩;go_wp2_with fail
    refine (ja _ 3 a _ HG0.out (.inl rfl) (by decide)).mono ?_;rintro r w1 ⟨err,rfl,hat,hb1⟩;have HAT:=hid hat;have hl1:w.heap.size<w1.heap.size:=Nat.lt_of_lt_of_le (by simp) hb1.size;clear hat;have d0:w1.cell? ⟨w.heap.size,0,none⟩=some (.string ⟨#[]⟩):=(hb1.cell (by simp)).trans (by simp);have d1:w1.cell? ⟨w.heap.size,1,none⟩=some (.int .i64 0):=(hb1.cell (by simp)).trans (by simp);have d2:w1.cell? ⟨w.heap.size,2,none⟩=some (.int .i64 0):=(hb1.cell (by simp)).trans (by simp);have g0:w1.frozen? ⟨w.heap.size,0,none⟩=false:=(hb1.frozen (by simp)).trans (by simp);have g1:w1.frozen? ⟨w.heap.size,1,none⟩=false:=(hb1.frozen (by simp)).trans (by simp);have g2:w1.frozen? ⟨w.heap.size,2,none⟩=false:=(hb1.frozen (by simp)).trans (by simp);have HB1:Hid (Below w.heap.size w w1):=((Below.refl _ _).alloc (Nat.le_refl _) _).trans (hb1.mono (by simp));clear hb1;go_wp2;refine bodyPost_ret (v:=.tuple #[.agg #[.string ⟨#[]⟩,.int .i64 0,.int .i64 0],.int .i64 0,err]) (by simp [results,Tryz.results207,go_sem,d0,d1,d2]) rfl ?_;exact iU (by omega) _ _ _ _ ⟨_,rfl,HAT.out.set3 d0 _ _ _,((HB1.out.setCell (Nat.le_refl _) _).setCell (Nat.le_refl _) _).setCell (Nat.le_refl _) _⟩
   ·have b3:((n:Int) / 2 == 0)=false:=by simp;omega
    by_cases hl:s.size-a<k+n / 2
    ·rw [rD hg h2 h0 (by rw [hdl];exact hl),hdl];have d5:(s.size:Int)-((a:Int)+(k:Int))<(n:Int) / 2:=by omega
     have d6:0≤(s.size:Int)-((a:Int)+(k:Int)):=by omega
     clear hg hdl h2;go_enter Tryz.func207,Tryz.ntmps207
     go_wp2_with fail
     refine (dD _ _ HM.out n k HGL.out).mono ?_;rintro r w' ⟨rfl,rfl⟩;go_wp2_with fail
     refine (ja _ 7 s.size _ HG0.out (.inl rfl) (by decide)).mono ?_;rintro r w1 ⟨err,rfl,hat,hb1⟩;have HAT:=hid hat;have hl1:w.heap.size<w1.heap.size:=Nat.lt_of_lt_of_le (by simp) hb1.size;clear hat;have d0:w1.cell? ⟨w.heap.size,0,none⟩=some (.string ⟨#[]⟩):=(hb1.cell (by simp)).trans (by simp);have d1:w1.cell? ⟨w.heap.size,1,none⟩=some (.int .i64 0):=(hb1.cell (by simp)).trans (by simp);have d2:w1.cell? ⟨w.heap.size,2,none⟩=some (.int .i64 0):=(hb1.cell (by simp)).trans (by simp);have g0:w1.frozen? ⟨w.heap.size,0,none⟩=false:=(hb1.frozen (by simp)).trans (by simp);have g1:w1.frozen? ⟨w.heap.size,1,none⟩=false:=(hb1.frozen (by simp)).trans (by simp);have g2:w1.frozen? ⟨w.heap.size,2,none⟩=false:=(hb1.frozen (by simp)).trans (by simp);have HB1:Hid (Below w.heap.size w w1):=((Below.refl _ _).alloc (Nat.le_refl _) _).trans (hb1.mono (by simp));clear hb1;go_wp2;refine bodyPost_ret (v:=.tuple #[.agg #[.string ⟨#[]⟩,.int .i64 0,.int .i64 0],.int .i64 0,err]) (by simp [results,Tryz.results207,go_sem,d0,d1,d2]) rfl ?_;exact iU (by rw [HEQ.out]) _ _ _ _ ⟨_,rfl,HAT.out.set3 d0 _ _ _,((HB1.out.setCell (Nat.le_refl _) _).setCell (Nat.le_refl _) _).setCell (Nat.le_refl _) _⟩
    ·obtain ⟨h,hh⟩:∃ h,h=n / 2:=⟨_,rfl⟩;obtain ⟨e,he⟩:∃ e,e=a+k+h:=⟨_,rfl⟩;have hD2:(s.extract (a+k) e).data.toList=((s.data.toList.drop a).drop k).take h:=by
      rw [fX,List.drop_drop,List.drop_take,he];congr 1;omega
     rw [nm hg h2 h0 (by rw [hdl];exact hl),←hh];rw [show (⟨⟨(((s.data.toList.drop a).drop k).take h).toArray⟩,0,0⟩:Tok)=⟨s.extract (a+k) e,0,0⟩ by rw [←hD2,bW]];obtain ⟨q,hq⟩:∃ q,q=a+k:=⟨_,rfl⟩;rw [←hq] at hD2 he ⊢;have d7:(n:Int) / 2=(h:Int):=by omega
     have d9:(a:Int)+(k:Int)=(q:Int):=by omega
     have d8:(q:Int)+(h:Int)=(e:Int):=by omega
     have b4:((h:Int) == 0)=false:=by simp;omega
     have d5:¬ ((s.size:Int)-(q:Int)<(h:Int)):=by omega
     have d6:0≤(s.size:Int)-(q:Int):=by omega
     have dA:(e:Int)≤(s.size:Int):=by omega
     have dB:(q:Int)≤(e:Int):=by omega
     have hh2:(h:Int)≤1000000:=by omega
     have HPL:Hid (((a+(k+h):Nat):Int)=(e:Int)):=hid (show ((a+(k+h):Nat):Int)=(e:Int) by omega);have HCZ:Hid ((s.extract q e).size≤140737488351232):=hid (show (s.extract q e).size≤140737488351232 by rw [ByteArray.size_extract];omega);clear hg hdl h2 hh he hD2 hq b3;go_enter Tryz.func207,Tryz.ntmps207
     go_wp2_with fail
     refine (dD _ _ HM.out n k HGL.out).mono ?_;rintro r w' ⟨rfl,rfl⟩;go_wp2_with fail
     refine (bP _ _ HCZ.out).mono ?_;rintro r w1 ⟨rfl,hb1⟩;have d0:w1.cell? ⟨w.heap.size,0,none⟩=some (.string ⟨#[]⟩):=(hb1.cell (by simp)).trans (by simp);have d1:w1.cell? ⟨w.heap.size,1,none⟩=some (.int .i64 0):=(hb1.cell (by simp)).trans (by simp);have d2:w1.cell? ⟨w.heap.size,2,none⟩=some (.int .i64 0):=(hb1.cell (by simp)).trans (by simp);have g0:w1.frozen? ⟨w.heap.size,0,none⟩=false:=(hb1.frozen (by simp)).trans (by simp);have g1:w1.frozen? ⟨w.heap.size,1,none⟩=false:=(hb1.frozen (by simp)).trans (by simp);have g2:w1.frozen? ⟨w.heap.size,2,none⟩=false:=(hb1.frozen (by simp)).trans (by simp);have HB1:Hid (Below w.heap.size w w1):=((Below.refl _ _).alloc (Nat.le_refl _) _).trans (hb1.mono (by simp));clear hb1;go_wp2;refine bodyPost_ret (v:=.tuple #[.agg #[.string (s.extract q e),.int .i64 0,.int .i64 0],.int .i64 (e:Int),.nilIface]) (by simp [results,Tryz.results207,go_sem,d0,d1,d2]) rfl ?_;exact rH HPL.out rfl _ _ _ ⟨rfl,((HB1.out.setCell (Nat.le_refl _) _).setCell (Nat.le_refl _) _).setCell (Nat.le_refl _) _⟩
  ·have b2:((n:Int) % 2 == 0)=false:=by simp;omega
   by_cases hb:63<n / 2
   ·rw [rA hg h2 hb];have d5:63<(n:Int) / 2:=by omega
    clear hg hdl h2;go_enter Tryz.func207,Tryz.ntmps207
    go_wp2_with fail
    refine (dD _ _ HM.out n k HGL.out).mono ?_;rintro r w' ⟨rfl,rfl⟩;go_wp2_with fail
    refine (ja _ 2 a _ HG0.out (.inl rfl) (by decide)).mono ?_;rintro r w1 ⟨err,rfl,hat,hb1⟩;have HAT:=hid hat;have hl1:w.heap.size<w1.heap.size:=Nat.lt_of_lt_of_le (by simp) hb1.size;clear hat;have d0:w1.cell? ⟨w.heap.size,0,none⟩=some (.string ⟨#[]⟩):=(hb1.cell (by simp)).trans (by simp);have d1:w1.cell? ⟨w.heap.size,1,none⟩=some (.int .i64 0):=(hb1.cell (by simp)).trans (by simp);have d2:w1.cell? ⟨w.heap.size,2,none⟩=some (.int .i64 0):=(hb1.cell (by simp)).trans (by simp);have g0:w1.frozen? ⟨w.heap.size,0,none⟩=false:=(hb1.frozen (by simp)).trans (by simp);have g1:w1.frozen? ⟨w.heap.size,1,none⟩=false:=(hb1.frozen (by simp)).trans (by simp);have g2:w1.frozen? ⟨w.heap.size,2,none⟩=false:=(hb1.frozen (by simp)).trans (by simp);have HB1:Hid (Below w.heap.size w w1):=((Below.refl _ _).alloc (Nat.le_refl _) _).trans (hb1.mono (by simp));clear hb1;go_wp2;refine bodyPost_ret (v:=.tuple #[.agg #[.string ⟨#[]⟩,.int .i64 0,.int .i64 0],.int .i64 0,err]) (by simp [results,Tryz.results207,go_sem,d0,d1,d2]) rfl ?_;exact iU (by omega) _ _ _ _ ⟨_,rfl,HAT.out.set3 d0 _ _ _,((HB1.out.setCell (Nat.le_refl _) _).setCell (Nat.le_refl _) _).setCell (Nat.le_refl _) _⟩
   ·obtain ⟨q,hq⟩:∃ q,q=a+k:=⟨_,rfl⟩;obtain ⟨h,hh⟩:∃ h,h=n / 2:=⟨_,rfl⟩;have d7:(n:Int) / 2=(h:Int):=by omega
    have d9:(a:Int)+(k:Int)=(q:Int):=by omega
    have d5:(h:Int)≤63:=by omega
    have dA:(q:Int)≤(s.size:Int):=by omega
    have dB:(0:Int)≤(q:Int):=by omega
    have hE2:(s.data.toList.drop a).drop k=(s.extract q s.size).data.toList:=by rw [qO,List.drop_drop,hq]
    have HM2:Hid ((s.extract q s.size).size≤maxLen):=hid (show (s.extract q s.size).size≤maxLen by rw [ByteArray.size_extract];unfold maxLen;omega);rcases qg ((s.data.toList.drop a).drop k) with ⟨e,hk,he⟩ | ⟨m,j,hk,hm,hm2⟩
    ·rw [rz hg h2 hb hk he];rw [hE2] at hk;have HK:=hid hk;have HE:=hid he;have HPL:Hid (((a+k:Nat):Int)=(q:Int)):=hid (show ((a+k:Nat):Int)=(q:Int) by omega);clear hg hdl h2 hh hE2 hk he hq hb;go_enter Tryz.func207,Tryz.ntmps207
     go_wp2_with fail
     refine (dD _ _ HM.out n k HGL.out).mono ?_;rintro r w' ⟨rfl,rfl⟩;go_wp2_with fail
     refine (Ad _ _ HM2.out e HK.out HE.out).mono ?_;rintro r w' ⟨rfl,rfl⟩;go_wp2_with fail
     refine (ja _ e q _ HG0.out (.inl rfl) HE.out).mono ?_;rintro r w1 ⟨err,rfl,hat,hb1⟩;have HAT:=hid hat;have hl1:w.heap.size<w1.heap.size:=Nat.lt_of_lt_of_le (by simp) hb1.size;clear hat;have d0:w1.cell? ⟨w.heap.size,0,none⟩=some (.string ⟨#[]⟩):=(hb1.cell (by simp)).trans (by simp);have d1:w1.cell? ⟨w.heap.size,1,none⟩=some (.int .i64 0):=(hb1.cell (by simp)).trans (by simp);have d2:w1.cell? ⟨w.heap.size,2,none⟩=some (.int .i64 0):=(hb1.cell (by simp)).trans (by simp);have g0:w1.frozen? ⟨w.heap.size,0,none⟩=false:=(hb1.frozen (by simp)).trans (by simp);have g1:w1.frozen? ⟨w.heap.size,1,none⟩=false:=(hb1.frozen (by simp)).trans (by simp);have g2:w1.frozen? ⟨w.heap.size,2,none⟩=false:=(hb1.frozen (by simp)).trans (by simp);have HB1:Hid (Below w.heap.size w w1):=((Below.refl _ _).alloc (Nat.le_refl _) _).trans (hb1.mono (by simp));clear hb1;go_wp2;refine bodyPost_ret (v:=.tuple #[.agg #[.string ⟨#[]⟩,.int .i64 0,.int .i64 0],.int .i64 0,err]) (by simp [results,Tryz.results207,go_sem,d0,d1,d2]) rfl ?_;exact iU HPL.out _ _ _ _ ⟨_,rfl,HAT.out.set3 d0 _ _ _,((HB1.out.setCell (Nat.le_refl _) _).setCell (Nat.le_refl _) _).setCell (Nat.le_refl _) _⟩
    ·rw [np hg h2 hb hk,←hh];have hj:=gb hm;rw [List.length_drop,hdl] at hj;rw [hE2] at hk;have HK:=hid hk;have hj2:(j:Int)≤1000000:=by omega
     have HPL:Hid (((a+(k+j):Nat):Int)=(q:Int)+(j:Int)):=hid (show ((a+(k+j):Nat):Int)=(q:Int)+(j:Int) by omega);have HTV:Hid (tokV (repT (m+1) (h+4))=.agg #[.string ⟨#[]⟩,.int .i64 ((m:Int)+1),.int .i64 ((h:Int)+4)]):=hid (show tokV (repT (m+1) (h+4))=.agg #[.string ⟨#[]⟩,.int .i64 ((m:Int)+1),.int .i64 ((h:Int)+4)] by unfold tokV repT;simp);clear hg hdl h2 hh hE2 hk hq hb hj hm;go_enter Tryz.func207,Tryz.ntmps207
     go_wp2_with fail
     refine (dD _ _ HM.out n k HGL.out).mono ?_;rintro r w' ⟨rfl,rfl⟩;go_wp2_with fail
     refine (Ae _ _ HM2.out m j HK.out).mono ?_;rintro r w' ⟨rfl,rfl⟩;go_wp2;refine bodyPost_ret (v:=.tuple #[.agg #[.string ⟨#[]⟩,.int .i64 ((m:Int)+1),.int .i64 ((h:Int)+4)],.int .i64 ((q:Int)+(j:Int)),.nilIface]) (by simp [results,Tryz.results207,go_sem]) rfl ?_;exact rH HPL.out HTV.out _ _ _ ⟨rfl,(Below.refl _ _).alloc (Nat.le_refl _) _⟩
end
section
open Go.RowKit
theorem A4:(Tryz.prog.info? 32).map (fun i=>(i.zero,i.size,i.bytes))=some (some (.slice none 0 0),1,24):=by kernel_rfl
def cz (w:World) (base:Nat) (v:Value) (l:List Value):Prop:=w.ownsRow base 32 1 v l.length l
theorem tk (w:World) (base:Nat):cz w base (.slice none 0 0) []:=World.ownsRow_nil _ _ _ _
theorem cz.alloc {w:World} {base:Nat} {v:Value} {l:List Value} (h:cz w base v l) (o:Obj):cz (w.alloc o) base v l:=World.ownsRow.alloc h o
theorem cz.drewN {w:World} {base:Nat} {v:Value} {l:List Value} (h:cz w base v l) (n:Nat):cz (w.drewN n) base v l:=h
theorem cz.lt {w:World} {base:Nat} {v:Value} {l:List Value} (h:cz w base v l):∀ k,v.ownBlock=some k→base≤k∧k<w.heap.size:=World.ownsRow.lt h
theorem cz.forms {w:World} {base:Nat} {v:Value} {l:List Value} (h:cz w base v l) :
 (v=.slice none 0 0∧l=[])∨∃ g cap,v=.slice (some ⟨g,0,none⟩) l.length cap∧base≤g∧g<w.heap.size∧(∃ cur,w.heap[g]? = some (.cells cur 32 (0,0)))∧∀ j u,l[j]? = some u→w.cell? ⟨g,j,none⟩=some u:=by
 have hall:=h;obtain ⟨h0,h1⟩:=h;rcases h1 with ⟨rfl,hn⟩ | ⟨g,cap,cur,rfl,hb,hh,hc,hm,hs,ht⟩
 ·exact .inl ⟨rfl,List.length_eq_zero_iff.1 hn⟩
 ·refine .inr ⟨g,cap,rfl,hb,(World.ownsRow.lt hall g rfl).2,⟨cur,hh⟩,fun j u hj=>?_⟩;have hjl:j<l.length:=(List.getElem?_eq_some_iff.1 hj).1;rw [World.ownsRow.cellAt hall j (by omega)];exact hj
theorem wpList_append_run {w:World} {ops:Array Oper} {rest:List Oper} {o:Oper} {a:Act} {Q:Exit→Act→World→Prop} (hgd:o.guard=none) (s x:Operand)
 (ho:o.op=.call { callee:=.builtin .append,args:=#[s,x],argTypes:=#[228,228] })
 (base:Nat) (v:Value) (l:List Value) (hs:a.eval s=v) (hown:cz w base v l)
 (ad:Addr) (c:Nat) (hx:a.eval x=.slice (some ad) 1 c) (d:Value) (hd:∃ a n m,d=.slice a n m) (hcell:w.cell? (ad.add 0)=some d)
 (hlen:l.length+1≤1000000) (hbase:base≤w.heap.size)
 (h:∀ g cap w',cz w' base (.slice (some ⟨g,0,none⟩) (l.length+1) cap) (l++[d])→w.grownBy w' v.ownBlock→wpList Tryz.prog ops Q rest (a.put o.dst (.slice (some ⟨g,0,none⟩) (l.length+1) cap)) w'):wpList Tryz.prog ops Q (o::rest) a w:=by
 obtain ⟨i0,hi,hz0,hz1,hz2⟩:=info_parts A4;refine wpList_append_lies w hgd s x 228 ho base 32 i0 (.slice none 0 0) 1 24 Tryz.underlying228 hi hz0 hz1 hz2 rfl (by decide) v l.length l hs hown ad 1 c [d] hx rfl ?_ ?_ (by decide) (by unfold maxLen;omega) (by omega) hbase _ rfl ?_
 ·intro j u hj
  match j,hj with
  | 0,hj=>simp at hj;subst hj;exact hcell
 ·intro u hu;simp at hu;subst hu;obtain ⟨a,n,m,rfl⟩:=hd;rfl
 ·intro g cap w' h1 h2 _ _;refine h g cap w' ?_ h2;unfold cz;rw [List.length_append];exact h1
def areE (w:World):List Value→List (List Ent)→Prop
 | [],[]=>True
 | v::vs,r::rs=>ae w v r∧areE w vs rs
 | _,_=>False
theorem xh {w:World} {vs:List Value}:∀ {rs:List (List Ent)},areE w vs rs→vs.length=rs.length:=by
 induction vs with
 | nil=>intro rs h;cases rs with
  | nil=>rfl
  | cons r rs=>exact h.elim
 | cons v vs ih=>intro rs h;cases rs with
  | nil=>exact h.elim
  | cons r rs=>simp [ih h.2]
theorem pS {w:World} {vs:List Value} {v:Value} {r:List Ent} (hv:ae w v r):∀ {rs:List (List Ent)},areE w vs rs→areE w (vs++[v]) (rs++[r]):=by
 induction vs with
 | nil=>intro rs h;cases rs with
  | nil=>exact ⟨hv,trivial⟩
  | cons r rs=>exact h.elim
 | cons v vs ih=>intro rs h;cases rs with
  | nil=>exact h.elim
  | cons r rs=>exact ⟨h.1,ih h.2⟩
theorem xg {w:World} {vs:List Value}:∀ {rs:List (List Ent)} {i:Nat} {r:List Ent},areE w vs rs→rs[i]? = some r→∃ v,vs[i]? = some v∧ae w v r:=by
 induction vs with
 | nil=>intro rs i r h hi;cases rs with
  | nil=>simp at hi
  | cons r rs=>exact h.elim
 | cons v vs ih=>intro rs i r h hi;cases rs with
  | nil=>exact h.elim
  | cons r rs=>cases i with
   | zero=>simp at hi;subst hi;exact ⟨v,by simp,h.1⟩
   | succ i=>simp at hi;obtain ⟨u,h1,h2⟩:=ih h.2 hi;exact ⟨u,by simpa using h1,h2⟩
end
section
open Go.RowKit
def wJ (w:World) (l:List Tok) (e:Ending) (w':World):Prop :=
 ∃ err,e=.returned (.tuple #[.string ⟨(ef l).toArray⟩,err])∧atIs w' err (am l 0 0)∧Below w.heap.size w w'
theorem Bp (v:Value) (l:List Tok) (w:World) (hv:fP w v l) (hl:l.length≤9223372036854775807) (hz:∀ t∈l,t.own.size≤140737488351232) :
 Calls Tryz.prog 149 #[v] w (wJ w l):=by
 have HV:=hid hv;have HLL:=hid hl;have HZ:=hid hz;by_cases hr:(am l 0 0).1=0
 ·have HR:=hid (ou hr);have HW:Hid (ef l=bu l):=by
   have h:ef l=bu l:=by unfold ef;rw [if_pos hr]
   exact h
  have HF:=hid (ow hr);obtain ⟨hfew,hcost,hsum⟩:=lB hr;have HC:=hid hcost;have HSZ:Hid (∀ t∈l,t.own.size≤20000):=by
   have h:∀ t∈l,t.own.size≤20000:=tw hr;exact h
  obtain ⟨a1,c1,rfl,f1⟩:=hv.form;have F1:=hid f1;obtain ⟨n,hn⟩:∃ n,n=l.length:=⟨_,rfl⟩;rw [←hn] at hl hfew ⊢ HV;have HN:=hid hn;have HR0:=hid hr;clear hv f1 hn hz hr hcost hsum;go_enter Tryz.func149,Tryz.ntmps149
  go_wp2_with fail
  refine (ib _ l _ HV.out HLL.out HZ.out).mono ?_;rintro r w0 ⟨err,rfl,hat,hb0⟩;obtain rfl:err=.nilIface:=by
   rcases hat with ⟨_,h⟩ | ⟨h,_⟩
   ·exact h
   ·exact absurd HR0.out h
  have HB0:=hid hb0;have hsz0:=hb0.size;clear hat hb0;go_wp2;obtain ⟨B,hB⟩:∃ B,B=w0.heap.size:=⟨_,rfl⟩;have HBN:Hid (aX (w0.alloc (.cells #[.pointer none,.slice none 0 0] 145)) w.heap.size B []):=by
   have h:=mF w0 w.heap.size hsz0;rw [←hB] at h;exact h
  rw [←hB];have HBB:=hid hB;clear hB
  go_loopw [15] (fun i wr=>∃ k:Nat,k≤n∧i=.int .i64 k∧aX wr w.heap.size B (bu (l.take k))∧Below w.heap.size w wr) (fun i _=>n-(intOf i).toNat)
  case atStart=>exact ⟨0,by omega,rfl,HBN.out,HB0.out.alloc hsz0 _⟩
  case round =>
   obtain ⟨k,hk,rfl,hbl,hbel⟩:=hrel;have HBL:=hid hbl;have HB:=hid hbel;clear hbl hbel;by_cases hlt:k<n
   ·obtain ⟨t, ht⟩ : ∃ t, l[k]? = some t := ⟨l[k]'(by have := HN.out; omega), List.getElem?_eq_getElem _⟩;obtain ⟨b1,o1,rfl,hb1,p0,p1,p2⟩:=F1.out k t ht;have HSN:=hid (GD l k t ht);have HTF:Hid (fine t):=(HF.out t (List.mem_of_getElem? ht)).1;have HTS:Hid (t.own.size≤20000):=HSZ.out t (List.mem_of_getElem? ht);have HTC:Hid (tokV t=.agg #[.string t.own,.int .i64 t.back,.int .i64 t.size]):=rfl;have HCT:Hid ((bu (l.take k)).length+(putT t).length≤220000):=by
     have h:(bu (l.take k)).length+(putT t).length≤220000:=by
      have h1:=yD (l:=l) (k+1);unfold cost at h1;rw [HSN.out,List.length_append] at h1;have:=HC.out;unfold cost at this;omega
     exact h
    obtain ⟨own,back,size⟩:=t;simp only at p0 p1 p2
    have q0:=(HB.out.cell (p:=⟨b1,o1+k * 3,none⟩) hb1).trans p0;have q1:=(HB.out.cell (p:=⟨b1,o1+k * 3+1,none⟩) hb1).trans p1;have q2:=(HB.out.cell (p:=⟨b1,o1+k * 3+2,none⟩) hb1).trans p2;have hzr:=HB.out.size;clear p0 p1 p2 ht;go_wp2_with fail
    refine (Bl ⟨own,back,size⟩ _ HTF.out HTS.out).mono ?_;rintro r w1 ⟨rfl,hb1'⟩;have HBL1:=hid ((HBL.out.alloc (.cells #[.string own,.int .i64 back,.int .i64 size] 237)).below hb1');have HB1:Hid (Below w.heap.size w w1):=(HB.out.alloc hzr _).trans (hb1'.mono (by simp;omega));have hzr1:=HB1.out.size;clear hb1' q0 q1 q2;go_wp2_with fail
    refine (qj w.heap.size B _ _ _ HBL1.out (by rw [cq];have:=HCT.out;omega) hzr1).mono ?_;rintro r w2 ⟨rfl,hbl2,hb2⟩;have HBL2:Hid (aX w2 w.heap.size B (bu (l.take (k+1)))):=by
     have h:aX w2 w.heap.size B (bu (l.take (k+1))):=by rw [HSN.out];exact hbl2
     exact h
    have HB2:=hid (HB1.out.trans hb2);clear hbl2 hb2;go_wp2;go_roundw
    case rel=>exact ⟨k+1,by omega,by go_num,HBL2.out,HB2.out⟩
    case measure=>simp [intOf];omega
   ·have hkn:k=n:=by omega
    have HBL':Hid (aX wr w.heap.size B (ef l)):=by
     have h:aX wr w.heap.size B (ef l):=by
      have h:=HBL.out;rw [hkn,HN.out,List.take_length] at h;rw [HW.out];exact h
     exact h
    have hzr:=HB.out.size;clear hkn;go_wp2_with fail
    refine (mG w.heap.size B _ _ HBL'.out hzr).mono ?_;rintro r w1 ⟨rfl,hb1⟩;have HB1:=hid (HB.out.trans hb1);clear hb1;go_wp2;go_ret2;exact ⟨.nilIface,rfl,.inl ⟨HR.out,rfl⟩,HB1.out⟩
 ·have HW : Hid (ef l = []) := by
   have h:ef l=[]:=by unfold ef;rw [if_neg hr]
   exact h
  have HR0:=hid hr;obtain ⟨a1,c1,rfl,f1⟩:=hv.form;clear hv hz hr f1;go_enter Tryz.func149,Tryz.ntmps149
  go_wp2_with fail
  refine (ib _ l _ HV.out HLL.out HZ.out).mono ?_;rintro r w0 ⟨err,rfl,hat,hb0⟩;have HAT:=hid hat;have HB0:=hid hb0;clear hb0;obtain ⟨t,u,rfl⟩:∃ t u,err=.iface t u:=by
   rcases hat with ⟨h,_⟩ | ⟨_,b,h,_⟩
   ·exact absurd (by rw [h]) HR0.out
   ·exact ⟨_,_,h⟩
  clear hat;go_wp2;go_ret2;exact ⟨_,by rw [HW.out];rfl,HAT.out,HB0.out⟩
end
section
open Go.RowKit
theorem B8 {T:List ByteArray} {l:List Int} (h:(dupR T).1≠0):bC T l=([],dupR T):=by
 unfold dupR at h ⊢;unfold bC;split at h
 ·rename_i i hi;rw [hi]
 ·simp at h
theorem Bc {T:List ByteArray} {l:List Int} (h:(dupR T).1=0) (ho:(ordG T.length 0 l 0).1≠0):bC T l=([],ordG T.length 0 l 0):=by
 unfold dupR at h;unfold bC;split at h
 ·simp at h
 ·rename_i hi;rw [hi];simp only [if_neg ho]
theorem B9 {T:List ByteArray} {l:List Int} (h:(dupR T).1=0) (ho:(ordG T.length 0 l 0).1=0):bC T l=(outG T l,0,-1):=by
 unfold dupR at h;unfold bC;split at h
 ·simp at h
 ·rename_i hi;rw [hi];simp only [if_pos ho]
theorem Cq (K:Nat) (l:List Int):∀ told i,(ordG K told l i).1=0→∀ n∈l,0≤n∧n<(K:Int):=by
 induction l with
 | nil=>intro told i _ n hn;cases hn
 | cons z r ih =>
  intro told i h n hn;unfold ordG at h;split at h
  ·simp at h
  ·rename_i h1;split at h
   ·simp at h
   ·rcases List.mem_cons.1 hn with rfl | hn
    ·omega
    ·exact ih _ _ h n hn
theorem CC {T:List ByteArray} {l:List Int} {k j:Nat} {s:ByteArray} (h:l[k]? = some (j:Int)) (hs:T[j]? = some s):outG T (l.take (k+1))=outG T (l.take k)++[s]:=by
 obtain ⟨hk,e⟩:=List.getElem?_eq_some_iff.1 h;rw [←List.take_append_getElem hk,e];unfold outG;rw [List.map_append];simp [hs]
def wq (w:World) (r:List ByteArray×Nat×Int) (e:Ending) (w':World):Prop :=
 ∃ v err,e=.returned (.tuple #[v,err])∧ai w' w.heap.size v r.1∧ax w' err r.2∧Below w.heap.size w w'
theorem Ax (v u:Value) (T:List ByteArray) (l:List Int) (w:World) (hv:cD w v T) (hu:fO w u l) (hT:T.length≤1000000) (hl:l.length≤1000000) (hs:∀ s∈T,s.size≤140737488351232) :
 Calls Tryz.prog 192 #[v,u] w (wq w (bC T l)):=by
 have HV:=hid hv;have HU:=hid hu;have HS:=hid hs;have HTL:=hid hT;have HLL:=hid hl;obtain ⟨a1,c1,rfl,_,f1⟩:=hv;obtain ⟨a2,c2,rfl,_,f2⟩:=hu;have F1:=hid f1;have F2:=hid f2;obtain ⟨m,hm⟩:∃ m,m=T.length:=⟨_,rfl⟩;obtain ⟨n,hn⟩:∃ n,n=l.length:=⟨_,rfl⟩;rw [←hm] at hT HV ⊢;rw [←hn] at hl HU ⊢;have HM:=hid hm;have HN:=hid hn;clear f1 f2 hm hn hs hT hl;go_enter Tryz.func192,Tryz.ntmps192
 go_wp2_with fail
 refine (AA _ T w HV.out HTL.out HS.out).mono ?_;rintro r w1 ⟨err,rfl,he,hb1⟩;by_cases h0:(dupR T).1=0
 ·obtain rfl:=ax.nil (.inl he) h0;have HU1:=hid (HU.out.below hb1);have HB1:=hid hb1;have H0:=hid h0;clear he hb1 h0;go_wp2_with fail
  refine (Ay _ l m w1 HU1.out HLL.out (by rw [HM.out];exact HTL.out)).mono ?_;rintro r w2 ⟨err,rfl,he,hb2⟩;have HB2:=hid (HB1.out.trans (hb2.mono HB1.out.size));by_cases h1:(ordG m 0 l 0).1=0
  ·obtain rfl:=he.nil h1;have HR:Hid (bC T l=(outG T l,0,-1)):=hid (B9 H0.out (by rw [←HM.out];exact h1));have HI:=hid (Cq m l 0 0 h1);have hm':m≤1000000:=by rw [HM.out];exact HTL.out
   have hn':n≤1000000:=by rw [HN.out];exact HLL.out
   clear he hb2 h1 HB1 HU1;go_wp2
   go_loopw [8,28] (fun x i wr=>∃ k:Nat,k≤m∧i=.int .i64 k∧ai wr w.heap.size x (T.take k)∧Below w.heap.size w wr) (fun _ i _=>m-(intOf i).toNat)
   case atStart=>exact ⟨0,Nat.zero_le _,rfl,dv _ _,HB2.out⟩
   case round =>
    obtain ⟨k,hk,rfl,hos,hbel⟩:=hrel;have HO:=hid hos;have HB:=hid hbel;obtain ⟨ad,cp,rfl,hcp,g1⟩:=hos.isTexts;have hkl:(T.take k).length=k:=by rw [List.length_take];have:=HM.out;omega
    have HKL:=hid hkl;rw [hkl] at HO hcp;rw [hkl];clear hos hbel hkl;by_cases hlt:k<m
    ·obtain ⟨s, hs⟩ : ∃ s, T[k]? = some s := ⟨T[k]'(by have := HM.out; omega), List.getElem?_eq_getElem _⟩;obtain ⟨b1,o1,rfl,hb1,p0⟩:=F1.out k s hs;have q0:=(HB.out.cell (p:=⟨b1,o1+k,none⟩) hb1).trans p0;have HSZ:Hid (s.size≤140737488351232):=hid (HS.out s (List.mem_of_getElem? hs));have HTK:Hid (T.take k++[s]=T.take (k+1)):=hid (show _=_ by obtain ⟨hk2,e⟩:=List.getElem?_eq_some_iff.1 hs;rw [←e,List.take_append_getElem hk2]);clear p0 hs g1;go_wp2_with fail
     refine (s7 s _ (by have:=HSZ.out;omega)).mono ?_;rintro r w3 ⟨rfl,hb3⟩;have HB3:=hid (HB.out.trans (hb3.mono HB.out.size));have HO3:=hid (HO.out.below hb3);clear hb3 HB HO;go_wp2_with (at_builtin;refine jD rfl _ _ rfl w.heap.size _ (T.take k) rfl (HO3.out.alloc _) ⟨w3.heap.size,0,none⟩ 1 rfl s (by simp [Addr.add]) (by have:=HKL.out;omega) (by have:=HB3.out.size;simp;omega) ?_)
     intro g cap w4 ho4 hg4;have HB4:Hid (Below w.heap.size w w4):=(HB3.out.alloc HB3.out.size _).grown hg4 (by have:=HB3.out.size;simp;omega) (fun g hg=>(HO3.out.lt g hg).1);rw [HTK.out] at ho4;have HO4:=hid ho4;clear ho4 hg4;go_wp2;go_roundw
     case rel=>exact ⟨k+1,by omega,by go_num,HO4.out,HB4.out⟩
     case measure=>simp [intOf];omega
    ·obtain rfl:k=m:=by omega
     have hTk:T.take k=T:=List.take_of_length_le (by rw [HM.out];exact Nat.le_refl _);rw [hTk] at HO g1;obtain ⟨wp,hwp⟩:∃ wp,wp=wr:=⟨_,rfl⟩;rw [←hwp] at HO HB g1 ⊢;have G1:=hid g1;clear g1 hTk hwp;go_wp2
     go_loopw [9,40] (fun y i wo=>∃ q:Nat,q≤n∧i=.int .i64 q∧ai wo wp.heap.size y (outG T (l.take q))∧Below wp.heap.size wp wo) (fun _ i _=>n-(intOf i).toNat)
     case atStart=>exact ⟨0,Nat.zero_le _,rfl,dv _ _,Below.refl _ _⟩
     case round =>
      obtain ⟨q,hq,rfl,hos,hbel⟩:=hrel;have HO2:=hid hos;have HBO:=hid hbel;clear hos hbel;by_cases hlt2:q<n
      ·obtain ⟨z, hz⟩ : ∃ z, l[q]? = some z := ⟨l[q]'(by have := HN.out; omega), List.getElem?_eq_getElem _⟩;obtain ⟨b2,o2,rfl,hb2,p2⟩:=F2.out q z hz;obtain ⟨z0,z1⟩:=HI.out z (List.mem_of_getElem? hz);obtain ⟨j,rfl⟩:∃ j:Nat,z=j:=⟨z.toNat,by omega⟩;have hjm:j<k:=by omega
       obtain ⟨s, hs⟩ : ∃ s, T[j]? = some s := ⟨T[j]'(by have := HM.out; omega), List.getElem?_eq_getElem _⟩;obtain ⟨b3,o3,rfl,hb3,p3⟩:=G1.out j s hs;have HBW:=hid (HB.out.trans (HBO.out.mono HB.out.size));have q2:=(HBW.out.cell (p:=⟨b2,o2+q,none⟩) hb2).trans p2;have q3:=(HBO.out.cell (p:=⟨b3,o3+j,none⟩) hb3).trans p3;have HX:=hid (CC hz hs);have hz2:(outG T (l.take q)).length=q:=by unfold outG;rw [List.length_map,List.length_take];have:=HN.out;omega
       have HZ2:=hid hz2;clear p2 p3 hz hs z0 z1 hz2;go_wp2_with (at_builtin;refine jD rfl _ _ rfl wp.heap.size _ (outG T (l.take q)) rfl (HO2.out.alloc _) ⟨wr.heap.size,0,none⟩ 1 rfl s (by simp [Addr.add]) (by have:=HZ2.out;omega) (by have:=HBO.out.size;simp;omega) ?_)
       intro g cap w4 ho4 hg4;have HB4:Hid (Below wp.heap.size wp w4):=(HBO.out.alloc HBO.out.size _).grown hg4 (by have:=HBO.out.size;simp;omega) (fun g hg=>(HO2.out.lt g hg).1);rw [←HX.out] at ho4;have HO4:=hid ho4;clear ho4 hg4;go_wp2;go_roundw
       case rel=>exact ⟨q+1,by omega,by go_num,HO4.out,HB4.out⟩
       case measure=>simp [intOf];omega
      ·obtain rfl:q=n:=by omega
       have hlk:l.take q=l:=List.take_of_length_le (by rw [HN.out];exact Nat.le_refl _);have HO3:=hid (show ai wr wp.heap.size _ (outG T l) from hlk ▸ HO2.out);clear hlk;go_wp2;go_ret2;rw [HR.out];exact ⟨_,_,rfl,HO3.out.mono HB.out.size,.inl (.inl ⟨rfl,rfl⟩),HB.out.trans (HBO.out.mono HB.out.size)⟩
  ·obtain ⟨t,x,rfl⟩:=he.iface h1;have HR:Hid (bC T l=([],ordG m 0 l 0)):=hid (by rw [HM.out];exact Bc H0.out (by rw [←HM.out];exact h1));have HE:=hid he;clear he hb2;go_wp2;go_ret2;rw [HR.out];exact ⟨_,_,rfl,dv _ _,HE.out,HB2.out⟩
 ·have he2:ax w1 err (dupR T):=.inl he;obtain ⟨t,x,rfl⟩:=he2.iface h0;have HR:Hid (bC T l=([],dupR T)):=hid (B8 h0);have HE:=hid he2;have HB1:=hid hb1;clear he he2 hb1;go_wp2;go_ret2;rw [HR.out];exact ⟨_,_,rfl,dv _ _,HE.out,HB1.out⟩
end
section
open Go.RowKit
def numB (K N:Int):ByteArray:=if K=3 then ⟨(putL (zigN N).toNat).toArray⟩ else if K=4 then ⟨(putL N.toNat).toArray⟩ else ⟨#[]⟩
def valB (K:Int) (val:ByteArray):ByteArray:=if hasV K=true then dK val else ⟨#[]⟩
def bc (K:Int) (val:ByteArray) (N:Int):ByteArray:=numB K N++valB K val
def getN (K:Int) (l:List UInt8):Int×Nat×Nat:=if K=3 then (zagN (getL l).1,(getL l).2.1,(getL l).2.2) else if K=4 then (((intL l 1000).1:Int),(intL l 1000).2.1,(intL l 1000).2.2) else (0,0,0)
def getV (K:Int) (l:List UInt8):List UInt8×Nat×Nat:=if hasV K=true then getS l else ([],0,0)
theorem zD (K:Int) (l:List UInt8):(getN K l).2.1≤l.length∧(getN K l).2.1≤10:=by
 unfold getN;rcases dC l with ⟨e,hg,he⟩ | ⟨n,k,hg,hn,hk1,hk2,hk3⟩
 ·split
  ·rw [hg];simp
  ·split
   ·rw [iY hg he];simp
   ·simp
 ·split
  ·rw [hg];simp;omega
  ·split
   ·by_cases hm:(1000:Int)<0∨(1000:Int)<n
    ·rw [gT hg hm];simp
    ·rw [fE hg hm];simp;omega
   ·simp
end
