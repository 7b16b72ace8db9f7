import Derived.Test.YtjkbmfpomgcblaaGreatDoorKp13
namespace Go.Proofs.YtjkbmfpomgcblaaGreatDoor
open Go.RowKit
theorem bkL_int (l:List UInt8):intL l 1023=bkL l:=by
 unfold intL bkL
 by_cases h:(getL l).2.2≠0
 · rw [if_pos h,if_pos h]
 · rw [if_neg h,if_neg h]
   by_cases h2:1023 < (getL l).1
   · rw [if_pos (by omega),if_pos h2]
   · rw [if_neg (by omega),if_neg h2]
def WrongIs (w:World) (e:Nat) (pl:Int) (r:Ending) (w':World):Prop :=
 ∃ err,r=.returned (.tuple #[.agg #[.string ⟨#[]⟩,.int .i64 0,.int .i64 0],.int .i64 0,err])∧atIs w' err (e,pl)∧Below w.heap.size w w'
set_option maxRecDepth 100000 in
set_option maxHeartbeats 1000000 in
theorem lzwrong_any (v:Value) (e:Nat) (pl:Int) (w:World) (hg:errT w) (hv:isErr w v e) (he:e≠0) :
   Calls Tryz.prog 226 #[v,.int .i64 pl] w (WrongIs w e pl):=by
 have HG:=Lib.hid (hg.alloc (.cells #[.string ⟨#[]⟩,.int .i64 0,.int .i64 0] 224))
 have HV:=Lib.hid (hv.alloc (.cells #[.string ⟨#[]⟩,.int .i64 0,.int .i64 0] 224))
 clear hg hv
 go_enter Tryz.func226,Tryz.ntmps226
 go_wp2_with fail
 refine (tell_err v e _ HG.out HV.out).mono ?_
 rintro r w1 ⟨rfl,hb1⟩
 have hl:w.heap.size < w1.heap.size:=Nat.lt_of_lt_of_le (by simp) hb1.size
 have d0:w1.cell? ⟨w.heap.size,0,none⟩=some (.string ⟨#[]⟩):=(hb1.cell (by simp)).trans (by simp)
 have d1:w1.cell? ⟨w.heap.size,1,none⟩=some (.int .i64 0):=(hb1.cell (by simp)).trans (by simp)
 have d2:w1.cell? ⟨w.heap.size,2,none⟩=some (.int .i64 0):=(hb1.cell (by simp)).trans (by simp)
 have g0:w1.frozen? ⟨w.heap.size,0,none⟩=false:=(hb1.frozen (by simp)).trans (by simp)
 have g1:w1.frozen? ⟨w.heap.size,1,none⟩=false:=(hb1.frozen (by simp)).trans (by simp)
 have g2:w1.frozen? ⟨w.heap.size,2,none⟩=false:=(hb1.frozen (by simp)).trans (by simp)
 have HB1:Hid (Below w.heap.size w w1):=((Below.refl _ _).alloc (Nat.le_refl _) _).trans (hb1.mono (by simp))
 have HE:=Lib.hid he
 clear hb1 he
 go_wp2
 obtain ⟨W3,hW3⟩:∃ W3,((w1.setCell ⟨w.heap.size,0,none⟩ (.string ⟨#[]⟩)).setCell ⟨w.heap.size,1,none⟩ (.int .i64 0)).setCell ⟨w.heap.size,2,none⟩ (.int .i64 0)=W3:=⟨_,rfl⟩
 rw [hW3]
 have z3:W3.heap.size=w1.heap.size:=by rw [←hW3];simp
 have HB3:Hid (Below w.heap.size w W3):=by rw [←hW3];exact ((HB1.out.setCell (Nat.le_refl _) _).setCell (Nat.le_refl _) _).setCell (Nat.le_refl _) _
 have e0:W3.cell? ⟨w.heap.size,0,none⟩=some (.string ⟨#[]⟩):=by rw [←hW3];simp [go_sem,d0]
 have e1:W3.cell? ⟨w.heap.size,1,none⟩=some (.int .i64 0):=by rw [←hW3];simp [go_sem,d1]
 have e2:W3.cell? ⟨w.heap.size,2,none⟩=some (.int .i64 0):=by rw [←hW3];simp [go_sem,d2]
 have hl3:w.heap.size < W3.heap.size:=by omega
 have n3:(W3.alloc (.cells #[.int .i64 e,.int .i64 pl] 113)).heap[w1.heap.size]? = some (.cells #[.int .i64 e,.int .i64 pl] 113 (0,0)):=by rw [←z3];exact heap_alloc_new _ _
 have q0:=(World.cell?_alloc_lt W3 (.cells #[.int .i64 e,.int .i64 pl] 113) (⟨w.heap.size,0,none⟩:Addr) hl3).trans e0
 have q1:=(World.cell?_alloc_lt W3 (.cells #[.int .i64 e,.int .i64 pl] 113) (⟨w.heap.size,1,none⟩:Addr) hl3).trans e1
 have q2:=(World.cell?_alloc_lt W3 (.cells #[.int .i64 e,.int .i64 pl] 113) (⟨w.heap.size,2,none⟩:Addr) hl3).trans e2
 refine bodyPost_ret (v:=.tuple #[.agg #[.string ⟨#[]⟩,.int .i64 0,.int .i64 0],.int .i64 0,.iface 111 (.pointer (some ⟨w1.heap.size,0,none⟩))]) (by simp [results,Tryz.results226,go_sem,q0,q1,q2]) rfl ?_
 exact ⟨_,rfl,.inr ⟨HE.out,w1.heap.size,rfl,by simp;omega,cell_of_row _ _ 0 _ _ (0,0) n3,cell_of_row _ _ 1 _ _ (0,0) n3⟩,HB3.out.alloc (by omega) _⟩
def GetIs (w:World) (a:Nat) (r:(Nat×Nat) ⊕ (Tok×Nat)) (e:Ending) (w':World):Prop :=
 match r with
 | .inl (er,p)=>WrongIs w er ((a + p:Nat):Int) e w'
 | .inr (t,k)=>e=.returned (.tuple #[tokV t,.int .i64 ((a + k:Nat):Int),.nilIface])∧Below w.heap.size w w'
theorem ext_drop (s:ByteArray) (a:Nat):(s.extract a s.size).data.toList=s.data.toList.drop a:=by
 rw [ext_data,List.take_of_length_le (by rw [←size_data];exact Nat.le_refl _)]
theorem int_bad (s:ByteArray) (w:World) (hs:s.size≤maxLen) (e:Nat) (h:bkL s.data.toList=(0,0,e)) (he:e≠0) :
   Calls Tryz.prog 96 #[.string s,.int .i64 1023] w fun r w'=>r=.returned (.tuple #[.int .i64 0,.int .i64 0,.iface 44 (.int .i64 e)])∧w=w' :=
 (int_any s 1023 w hs (by omega) (by omega)).mono fun r w' ⟨h1,h2⟩=>⟨h1.trans (by rw [bkL_int,h];unfold intV errV;rw [if_neg he];rfl),h2⟩
theorem int_ok (s:ByteArray) (w:World) (hs:s.size≤maxLen) (n k:Nat) (h:bkL s.data.toList=(n,k,0)) :
   Calls Tryz.prog 96 #[.string s,.int .i64 1023] w fun r w'=>r=.returned (.tuple #[.int .i64 n,.int .i64 k,.nilIface])∧w=w' :=
 (int_any s 1023 w hs (by omega) (by omega)).mono fun r w' ⟨h1,h2⟩=>⟨h1.trans (by rw [bkL_int,h];rfl),h2⟩
theorem get_pl {a:Nat} {p:Int} {b:Nat} (h:((a + b:Nat):Int)=p) (e:Nat) (w:World) (r:Ending) (w':World) (hw:WrongIs w e p r w'):GetIs w a (.inl (e,b)) r w':=by
 show WrongIs w e ((a + b:Nat):Int) r w'
 rw [h];exact hw
theorem get_tk {a:Nat} {p:Int} {b:Nat} {t:Tok} {v:Value} (h:((a + b:Nat):Int)=p) (hv:tokV t=v) (w:World) (r:Ending) (w':World) (hw:r=.returned (.tuple #[v,.int .i64 p,.nilIface])∧Below w.heap.size w w'):GetIs w a (.inr (t,b)) r w':=by
 show r=.returned (.tuple #[tokV t,.int .i64 ((a + b:Nat):Int),.nilIface])∧_
 rw [h,hv];exact hw
theorem atIs.set3 {w:World} {v:Value} {r:Nat×Int} {B:Nat} {s:ByteArray} (h:atIs w v r) (h0:w.cell? ⟨B,0,none⟩=some (.string s)) (x y z:Value) :
   atIs (((w.setCell ⟨B,0,none⟩ x).setCell ⟨B,1,none⟩ y).setCell ⟨B,2,none⟩ z) v r:=by
 rcases h with h | ⟨h1,b,h2,h3,h4,h5⟩
 · exact .inl h
 · have hne : b ≠ B := by
     intro e;subst e;rw [h4] at h0;cases h0
   have hf:∀ o,(((w.setCell ⟨B,0,none⟩ x).setCell ⟨B,1,none⟩ y).setCell ⟨B,2,none⟩ z).cell? ⟨b,o,none⟩=w.cell? ⟨b,o,none⟩:=fun o=>by
     rw [World.cell?_setCell_other _ _ _ _ (by simp),World.cell?_setCell_other _ _ _ _ (by simp),World.cell?_setCell_other _ _ _ _ (by simp)]
   exact .inr ⟨h1,b,h2,by simpa using h3,(hf 0).trans h4,(hf 1).trans h5⟩
set_option maxRecDepth 100000 in
set_option maxHeartbeats 4000000 in
theorem lzget_any (s:ByteArray) (a:Nat) (w:World) (hs:s.size≤1000000) (ha:a≤s.size) (hg:errT w) :
   Calls Tryz.prog 204 #[.string s,.int .i64 (a:Int)] w (GetIs w a (getT (s.data.toList.drop a))):=by
 have HG0:=Lib.hid (hg.alloc (.cells #[.string ⟨#[]⟩,.int .i64 0,.int .i64 0] 224))
 have HD:=Lib.hid (ext_drop s a)
 have hdl:(s.data.toList.drop a).length=s.size - a:=by rw [List.length_drop,←size_data]
 have HM:Hid ((s.extract a s.size).size≤maxLen):=Lib.hid (show (s.extract a s.size).size≤maxLen by rw [ByteArray.size_extract];unfold maxLen;omega)
 have d3:(0:Int)≤(a:Int):=by omega
 have d4:(a:Int)≤(s.size:Int):=by omega
 clear hg
 rcases getL_cases (s.data.toList.drop a) with ⟨e,hg,he⟩ | ⟨n,k,hg,hn,hk1,hk2,hk3⟩
 · rw [getT_num hg he]
   have HGL:Hid (getL (s.extract a s.size).data.toList=(0,0,e)):=Lib.hid (show getL (s.extract a s.size).data.toList=(0,0,e) by rw [HD.out];exact hg)
   have HE:=Lib.hid he
   clear hg he hdl
   go_enter Tryz.func204,Tryz.ntmps204
   go_wp2_with fail
   refine (get_bad _ _ HM.out e HGL.out HE.out).mono ?_
   rintro r w' ⟨rfl,rfl⟩
   go_wp2_with fail
   refine (lzwrong_any _ e a _ HG0.out (.inl rfl) HE.out).mono ?_
   rintro r w1 ⟨err,rfl,hat,hb1⟩
   have HAT:=Lib.hid hat
   have hl1:w.heap.size < w1.heap.size:=Nat.lt_of_lt_of_le (by simp) hb1.size
   clear hat
   have d0:w1.cell? ⟨w.heap.size,0,none⟩=some (.string ⟨#[]⟩):=(hb1.cell (by simp)).trans (by simp)
   have d1:w1.cell? ⟨w.heap.size,1,none⟩=some (.int .i64 0):=(hb1.cell (by simp)).trans (by simp)
   have d2:w1.cell? ⟨w.heap.size,2,none⟩=some (.int .i64 0):=(hb1.cell (by simp)).trans (by simp)
   have g0:w1.frozen? ⟨w.heap.size,0,none⟩=false:=(hb1.frozen (by simp)).trans (by simp)
   have g1:w1.frozen? ⟨w.heap.size,1,none⟩=false:=(hb1.frozen (by simp)).trans (by simp)
   have g2:w1.frozen? ⟨w.heap.size,2,none⟩=false:=(hb1.frozen (by simp)).trans (by simp)
   have HB1:Hid (Below w.heap.size w w1):=((Below.refl _ _).alloc (Nat.le_refl _) _).trans (hb1.mono (by simp))
   clear hb1
   go_wp2
   refine bodyPost_ret (v:=.tuple #[.agg #[.string ⟨#[]⟩,.int .i64 0,.int .i64 0],.int .i64 0,err]) (by simp [results,Tryz.results204,go_sem,d0,d1,d2]) rfl ?_
   exact get_pl (by omega) _ _ _ _ ⟨_,rfl,HAT.out.set3 d0 _ _ _,((HB1.out.setCell (Nat.le_refl _) _).setCell (Nat.le_refl _) _).setCell (Nat.le_refl _) _⟩
 · rw [hdl] at hk3
   have HGL:Hid (getL (s.extract a s.size).data.toList=(n,k,0)):=Lib.hid (show getL (s.extract a s.size).data.toList=(n,k,0) by rw [HD.out];exact hg)
   have HEQ:Hid (a + (s.size - a)=s.size):=Lib.hid (show a + (s.size - a)=s.size by omega)
   by_cases h2:n % 2=0
   · have b2:((n:Int) % 2 == 0)=true:=by simp;omega
     by_cases h0:n=0
     · subst h0
       rw [getT_zero hg]
       clear hg hdl h2 b2
       go_enter Tryz.func204,Tryz.ntmps204
       go_wp2_with fail
       refine (get_ok _ _ HM.out 0 k HGL.out).mono ?_
       rintro r w' ⟨rfl,rfl⟩
       go_wp2_with fail
       refine (lzwrong_any _ 3 a _ HG0.out (.inl rfl) (by decide)).mono ?_
       rintro r w1 ⟨err,rfl,hat,hb1⟩
       have HAT:=Lib.hid hat
       have hl1:w.heap.size < w1.heap.size:=Nat.lt_of_lt_of_le (by simp) hb1.size
       clear hat
       have d0:w1.cell? ⟨w.heap.size,0,none⟩=some (.string ⟨#[]⟩):=(hb1.cell (by simp)).trans (by simp)
       have d1:w1.cell? ⟨w.heap.size,1,none⟩=some (.int .i64 0):=(hb1.cell (by simp)).trans (by simp)
       have d2:w1.cell? ⟨w.heap.size,2,none⟩=some (.int .i64 0):=(hb1.cell (by simp)).trans (by simp)
       have g0:w1.frozen? ⟨w.heap.size,0,none⟩=false:=(hb1.frozen (by simp)).trans (by simp)
       have g1:w1.frozen? ⟨w.heap.size,1,none⟩=false:=(hb1.frozen (by simp)).trans (by simp)
       have g2:w1.frozen? ⟨w.heap.size,2,none⟩=false:=(hb1.frozen (by simp)).trans (by simp)
       have HB1:Hid (Below w.heap.size w w1):=((Below.refl _ _).alloc (Nat.le_refl _) _).trans (hb1.mono (by simp))
       clear hb1
       go_wp2
       refine bodyPost_ret (v:=.tuple #[.agg #[.string ⟨#[]⟩,.int .i64 0,.int .i64 0],.int .i64 0,err]) (by simp [results,Tryz.results204,go_sem,d0,d1,d2]) rfl ?_
       exact get_pl (by omega) _ _ _ _ ⟨_,rfl,HAT.out.set3 d0 _ _ _,((HB1.out.setCell (Nat.le_refl _) _).setCell (Nat.le_refl _) _).setCell (Nat.le_refl _) _⟩
     · have b3:((n:Int) / 2 == 0)=false:=by simp;omega
       by_cases hl:s.size - a < k + n / 2
       · rw [getT_miss hg h2 h0 (by rw [hdl];exact hl),hdl]
         have d5:(s.size:Int) - ((a:Int) + (k:Int)) < (n:Int) / 2:=by omega
         have d6:0≤(s.size:Int) - ((a:Int) + (k:Int)):=by omega
         clear hg hdl h2
         go_enter Tryz.func204,Tryz.ntmps204
         go_wp2_with fail
         refine (get_ok _ _ HM.out n k HGL.out).mono ?_
         rintro r w' ⟨rfl,rfl⟩
         go_wp2_with fail
         refine (lzwrong_any _ 7 s.size _ HG0.out (.inl rfl) (by decide)).mono ?_
         rintro r w1 ⟨err,rfl,hat,hb1⟩
         have HAT:=Lib.hid hat
         have hl1:w.heap.size < w1.heap.size:=Nat.lt_of_lt_of_le (by simp) hb1.size
         clear hat
         have d0:w1.cell? ⟨w.heap.size,0,none⟩=some (.string ⟨#[]⟩):=(hb1.cell (by simp)).trans (by simp)
         have d1:w1.cell? ⟨w.heap.size,1,none⟩=some (.int .i64 0):=(hb1.cell (by simp)).trans (by simp)
         have d2:w1.cell? ⟨w.heap.size,2,none⟩=some (.int .i64 0):=(hb1.cell (by simp)).trans (by simp)
         have g0:w1.frozen? ⟨w.heap.size,0,none⟩=false:=(hb1.frozen (by simp)).trans (by simp)
         have g1:w1.frozen? ⟨w.heap.size,1,none⟩=false:=(hb1.frozen (by simp)).trans (by simp)
         have g2:w1.frozen? ⟨w.heap.size,2,none⟩=false:=(hb1.frozen (by simp)).trans (by simp)
         have HB1:Hid (Below w.heap.size w w1):=((Below.refl _ _).alloc (Nat.le_refl _) _).trans (hb1.mono (by simp))
         clear hb1
         go_wp2
         refine bodyPost_ret (v:=.tuple #[.agg #[.string ⟨#[]⟩,.int .i64 0,.int .i64 0],.int .i64 0,err]) (by simp [results,Tryz.results204,go_sem,d0,d1,d2]) rfl ?_
         exact get_pl (by rw [HEQ.out]) _ _ _ _ ⟨_,rfl,HAT.out.set3 d0 _ _ _,((HB1.out.setCell (Nat.le_refl _) _).setCell (Nat.le_refl _) _).setCell (Nat.le_refl _) _⟩
       · obtain ⟨h,hh⟩:∃ h,h=n / 2:=⟨_,rfl⟩
         obtain ⟨e,he⟩:∃ e,e=a + k + h:=⟨_,rfl⟩
         have hD2:(s.extract (a + k) e).data.toList=((s.data.toList.drop a).drop k).take h:=by
           rw [ext_data,List.drop_drop,List.drop_take,he];congr 1;omega
         rw [getT_own hg h2 h0 (by rw [hdl];exact hl),←hh]
         rw [show (⟨⟨(((s.data.toList.drop a).drop k).take h).toArray⟩,0,0⟩:Tok)=⟨s.extract (a + k) e,0,0⟩ by rw [←hD2,bs_of]]
         obtain ⟨q,hq⟩:∃ q,q=a + k:=⟨_,rfl⟩
         rw [←hq] at hD2 he ⊢
         have d7:(n:Int) / 2=(h:Int):=by omega
         have d9:(a:Int) + (k:Int)=(q:Int):=by omega
         have d8:(q:Int) + (h:Int)=(e:Int):=by omega
         have b4:((h:Int) == 0)=false:=by simp;omega
         have d5:¬ ((s.size:Int) - (q:Int) < (h:Int)):=by omega
         have d6:0≤(s.size:Int) - (q:Int):=by omega
         have dA:(e:Int)≤(s.size:Int):=by omega
         have dB:(q:Int)≤(e:Int):=by omega
         have hh2:(h:Int)≤1000000:=by omega
         have HPL:Hid (((a + (k + h):Nat):Int)=(e:Int)):=Lib.hid (show ((a + (k + h):Nat):Int)=(e:Int) by omega)
         have HCZ:Hid ((s.extract q e).size≤140737488351232):=Lib.hid (show (s.extract q e).size≤140737488351232 by rw [ByteArray.size_extract];omega)
         clear hg hdl h2 hh he hD2 hq b3
         go_enter Tryz.func204,Tryz.ntmps204
         go_wp2_with fail
         refine (get_ok _ _ HM.out n k HGL.out).mono ?_
         rintro r w' ⟨rfl,rfl⟩
         go_wp2_with fail
         refine (clone_s _ _ HCZ.out).mono ?_
         rintro r w1 ⟨rfl,hb1⟩
         have d0:w1.cell? ⟨w.heap.size,0,none⟩=some (.string ⟨#[]⟩):=(hb1.cell (by simp)).trans (by simp)
         have d1:w1.cell? ⟨w.heap.size,1,none⟩=some (.int .i64 0):=(hb1.cell (by simp)).trans (by simp)
         have d2:w1.cell? ⟨w.heap.size,2,none⟩=some (.int .i64 0):=(hb1.cell (by simp)).trans (by simp)
         have g0:w1.frozen? ⟨w.heap.size,0,none⟩=false:=(hb1.frozen (by simp)).trans (by simp)
         have g1:w1.frozen? ⟨w.heap.size,1,none⟩=false:=(hb1.frozen (by simp)).trans (by simp)
         have g2:w1.frozen? ⟨w.heap.size,2,none⟩=false:=(hb1.frozen (by simp)).trans (by simp)
         have HB1:Hid (Below w.heap.size w w1):=((Below.refl _ _).alloc (Nat.le_refl _) _).trans (hb1.mono (by simp))
         clear hb1
         go_wp2
         refine bodyPost_ret (v:=.tuple #[.agg #[.string (s.extract q e),.int .i64 0,.int .i64 0],.int .i64 (e:Int),.nilIface]) (by simp [results,Tryz.results204,go_sem,d0,d1,d2]) rfl ?_
         exact get_tk HPL.out rfl _ _ _ ⟨rfl,((HB1.out.setCell (Nat.le_refl _) _).setCell (Nat.le_refl _) _).setCell (Nat.le_refl _) _⟩
   · have b2:((n:Int) % 2 == 0)=false:=by simp;omega
     by_cases hb:63 < n / 2
     · rw [getT_big hg h2 hb]
       have d5:63 < (n:Int) / 2:=by omega
       clear hg hdl h2
       go_enter Tryz.func204,Tryz.ntmps204
       go_wp2_with fail
       refine (get_ok _ _ HM.out n k HGL.out).mono ?_
       rintro r w' ⟨rfl,rfl⟩
       go_wp2_with fail
       refine (lzwrong_any _ 2 a _ HG0.out (.inl rfl) (by decide)).mono ?_
       rintro r w1 ⟨err,rfl,hat,hb1⟩
       have HAT:=Lib.hid hat
       have hl1:w.heap.size < w1.heap.size:=Nat.lt_of_lt_of_le (by simp) hb1.size
       clear hat
       have d0:w1.cell? ⟨w.heap.size,0,none⟩=some (.string ⟨#[]⟩):=(hb1.cell (by simp)).trans (by simp)
       have d1:w1.cell? ⟨w.heap.size,1,none⟩=some (.int .i64 0):=(hb1.cell (by simp)).trans (by simp)
       have d2:w1.cell? ⟨w.heap.size,2,none⟩=some (.int .i64 0):=(hb1.cell (by simp)).trans (by simp)
       have g0:w1.frozen? ⟨w.heap.size,0,none⟩=false:=(hb1.frozen (by simp)).trans (by simp)
       have g1:w1.frozen? ⟨w.heap.size,1,none⟩=false:=(hb1.frozen (by simp)).trans (by simp)
       have g2:w1.frozen? ⟨w.heap.size,2,none⟩=false:=(hb1.frozen (by simp)).trans (by simp)
       have HB1:Hid (Below w.heap.size w w1):=((Below.refl _ _).alloc (Nat.le_refl _) _).trans (hb1.mono (by simp))
       clear hb1
       go_wp2
       refine bodyPost_ret (v:=.tuple #[.agg #[.string ⟨#[]⟩,.int .i64 0,.int .i64 0],.int .i64 0,err]) (by simp [results,Tryz.results204,go_sem,d0,d1,d2]) rfl ?_
       exact get_pl (by omega) _ _ _ _ ⟨_,rfl,HAT.out.set3 d0 _ _ _,((HB1.out.setCell (Nat.le_refl _) _).setCell (Nat.le_refl _) _).setCell (Nat.le_refl _) _⟩
     · obtain ⟨q,hq⟩:∃ q,q=a + k:=⟨_,rfl⟩
       obtain ⟨h,hh⟩:∃ h,h=n / 2:=⟨_,rfl⟩
       have d7:(n:Int) / 2=(h:Int):=by omega
       have d9:(a:Int) + (k:Int)=(q:Int):=by omega
       have d5:(h:Int)≤63:=by omega
       have dA:(q:Int)≤(s.size:Int):=by omega
       have dB:(0:Int)≤(q:Int):=by omega
       have hE2:(s.data.toList.drop a).drop k=(s.extract q s.size).data.toList:=by rw [ext_drop,List.drop_drop,hq]
       have HM2:Hid ((s.extract q s.size).size≤maxLen):=Lib.hid (show (s.extract q s.size).size≤maxLen by rw [ByteArray.size_extract];unfold maxLen;omega)
       rcases bkL_cases ((s.data.toList.drop a).drop k) with ⟨e,hk,he⟩ | ⟨m,j,hk,hm,hm2⟩
       · rw [getT_back hg h2 hb hk he]
         rw [hE2] at hk
         have HK:=Lib.hid hk
         have HE:=Lib.hid he
         have HPL:Hid (((a + k:Nat):Int)=(q:Int)):=Lib.hid (show ((a + k:Nat):Int)=(q:Int) by omega)
         clear hg hdl h2 hh hE2 hk he hq hb
         go_enter Tryz.func204,Tryz.ntmps204
         go_wp2_with fail
         refine (get_ok _ _ HM.out n k HGL.out).mono ?_
         rintro r w' ⟨rfl,rfl⟩
         go_wp2_with fail
         refine (int_bad _ _ HM2.out e HK.out HE.out).mono ?_
         rintro r w' ⟨rfl,rfl⟩
         go_wp2_with fail
         refine (lzwrong_any _ e q _ HG0.out (.inl rfl) HE.out).mono ?_
         rintro r w1 ⟨err,rfl,hat,hb1⟩
         have HAT:=Lib.hid hat
         have hl1:w.heap.size < w1.heap.size:=Nat.lt_of_lt_of_le (by simp) hb1.size
         clear hat
         have d0:w1.cell? ⟨w.heap.size,0,none⟩=some (.string ⟨#[]⟩):=(hb1.cell (by simp)).trans (by simp)
         have d1:w1.cell? ⟨w.heap.size,1,none⟩=some (.int .i64 0):=(hb1.cell (by simp)).trans (by simp)
         have d2:w1.cell? ⟨w.heap.size,2,none⟩=some (.int .i64 0):=(hb1.cell (by simp)).trans (by simp)
         have g0:w1.frozen? ⟨w.heap.size,0,none⟩=false:=(hb1.frozen (by simp)).trans (by simp)
         have g1:w1.frozen? ⟨w.heap.size,1,none⟩=false:=(hb1.frozen (by simp)).trans (by simp)
         have g2:w1.frozen? ⟨w.heap.size,2,none⟩=false:=(hb1.frozen (by simp)).trans (by simp)
         have HB1:Hid (Below w.heap.size w w1):=((Below.refl _ _).alloc (Nat.le_refl _) _).trans (hb1.mono (by simp))
         clear hb1
         go_wp2
         refine bodyPost_ret (v:=.tuple #[.agg #[.string ⟨#[]⟩,.int .i64 0,.int .i64 0],.int .i64 0,err]) (by simp [results,Tryz.results204,go_sem,d0,d1,d2]) rfl ?_
         exact get_pl HPL.out _ _ _ _ ⟨_,rfl,HAT.out.set3 d0 _ _ _,((HB1.out.setCell (Nat.le_refl _) _).setCell (Nat.le_refl _) _).setCell (Nat.le_refl _) _⟩
       · rw [getT_rep hg h2 hb hk,←hh]
         have hj:=getL_only hm
         rw [List.length_drop,hdl] at hj
         rw [hE2] at hk
         have HK:=Lib.hid hk
         have hj2:(j:Int)≤1000000:=by omega
         have HPL:Hid (((a + (k + j):Nat):Int)=(q:Int) + (j:Int)):=Lib.hid (show ((a + (k + j):Nat):Int)=(q:Int) + (j:Int) by omega)
         have HTV:Hid (tokV (repT (m + 1) (h + 4))=.agg #[.string ⟨#[]⟩,.int .i64 ((m:Int) + 1),.int .i64 ((h:Int) + 4)]):=Lib.hid (show tokV (repT (m + 1) (h + 4))=.agg #[.string ⟨#[]⟩,.int .i64 ((m:Int) + 1),.int .i64 ((h:Int) + 4)] by unfold tokV repT;simp)
         clear hg hdl h2 hh hE2 hk hq hb hj hm
         go_enter Tryz.func204,Tryz.ntmps204
         go_wp2_with fail
         refine (get_ok _ _ HM.out n k HGL.out).mono ?_
         rintro r w' ⟨rfl,rfl⟩
         go_wp2_with fail
         refine (int_ok _ _ HM2.out m j HK.out).mono ?_
         rintro r w' ⟨rfl,rfl⟩
         go_wp2
         refine bodyPost_ret (v:=.tuple #[.agg #[.string ⟨#[]⟩,.int .i64 ((m:Int) + 1),.int .i64 ((h:Int) + 4)],.int .i64 ((q:Int) + (j:Int)),.nilIface]) (by simp [results,Tryz.results204,go_sem]) rfl ?_
         exact get_tk HPL.out HTV.out _ _ _ ⟨rfl,(Below.refl _ _).alloc (Nat.le_refl _) _⟩
end Go.Proofs.YtjkbmfpomgcblaaGreatDoor
