import Derived.Test.YtgfinhehgfbdgaaGreatDoorKa18
import Derived.Test.YtgfinhehgfbdgaaGreatDoorKa01
import Derived.WalkSpells
namespace Go.Proofs.YtgfinhehgfbdgaaGreatDoor
open Go.RowKit
def spanL (l:List UInt8):List UInt8:=putL l.length ++ l
def spanB (s:ByteArray):ByteArray:=⟨(putL s.size).toArray⟩ ++ s
theorem spanB_data (s:ByteArray):(spanB s).data.toList=spanL s.data.toList:=by unfold spanB spanL;rw [app_data,←size_data]
theorem spanB_size (s:ByteArray):(spanB s).size=(putL s.size).length + s.size:=by unfold spanB;rw [app_size,bs_size]
def getS (l:List UInt8):List UInt8×Nat×Nat :=
 if (getL l).2.2≠0 then ([],0,(getL l).2.2) else if 2000 < (getL l).1 then ([],0,4) else if l.length < (getL l).2.1 + (getL l).1 then ([],0,7)
 else ((l.drop (getL l).2.1).take (getL l).1,(getL l).2.1 + (getL l).1,0)
theorem getS_bad {l:List UInt8} {e:Nat} (h:getL l=(0,0,e)) (he:e≠0):getS l=([],0,e):=by
 unfold getS;rw [h];rw [if_pos (by exact he)]
theorem getS_big {l:List UInt8} {n k:Nat} (h:getL l=(n,k,0)) (hn:2000 < n):getS l=([],0,4):=by
 unfold getS;rw [h];rw [if_neg (by simp),if_pos (by exact hn)]
theorem getS_miss {l:List UInt8} {n k:Nat} (h:getL l=(n,k,0)) (hn:¬ 2000 < n) (hl:l.length < k + n):getS l=([],0,7):=by
 unfold getS;rw [h];rw [if_neg (by simp),if_neg (by exact hn),if_pos (by exact hl)]
theorem getS_ok {l:List UInt8} {n k:Nat} (h:getL l=(n,k,0)) (hn:¬ 2000 < n) (hl:¬ l.length < k + n):getS l=((l.drop k).take n,k + n,0):=by
 unfold getS;rw [h];rw [if_neg (by simp),if_neg (by exact hn),if_neg (by exact hl)]
def spanV (r:List UInt8×Nat×Nat):Value:=.tuple #[.string ⟨r.1.toArray⟩,.int .i64 r.2.1,errV r.2.2]
theorem clone_any (s:ByteArray) (w:World) (hs:s.size≤281474976710656) :
   Calls Tryz.prog 145 #[.string s] w fun e w'=>e=.returned (.string s)∧Below w.heap.size w w':=by
 go_enter Tryz.func145,Tryz.ntmps145
 go_wp2_with fail
 refine (Tryz.stringslite_Clone s _ hs).mono ?_
 rintro r w1 ⟨rfl,hb⟩
 have HB:=Lib.hid hb
 clear hb
 go_wp2
 go_ret
 exact ⟨rfl,HB.out⟩
set_option maxRecDepth 100000 in
set_option maxHeartbeats 1000000 in
theorem sput_ok (s:ByteArray) (w:World) (hs:s.size≤2000) :
   Calls Tryz.prog 115 #[.string s] w fun r w'=>r=.returned (.tuple #[.string (spanB s),.nilIface])∧Below w.heap.size w w':=by
 have hl:=putL_le10 (n:=s.size) (by omega)
 have HP:Hid (spanB s=⟨(putL s.size).toArray⟩ ++ s):=rfl
 go_enter Tryz.func115,Tryz.ntmps115
 go_wp2_with (go_at_call 68;refine (put_nat s.size _ (by omega)).mono ?_;rintro r w1 ⟨rfl,hb1⟩)
 go_ret2
 exact ⟨by rw [HP.out];rfl,by assumption⟩
set_option maxRecDepth 100000 in
set_option maxHeartbeats 2000000 in
theorem sget_any (s:ByteArray) (w:World) (hs:s.size≤140737488351232) :
   Calls Tryz.prog 187 #[.string s] w fun r w'=>r=.returned (spanV (getS s.data.toList))∧Below w.heap.size w w':=by
 have hs2:s.size≤maxLen:=by unfold maxLen;omega
 rcases getL_cases s.data.toList with ⟨e,hg,he⟩ | ⟨n,k,hg,hn,hk1,hk2,hk3⟩
 · have HP : Hid (spanV (getS s.data.toList) = .tuple #[.string ⟨#[]⟩, .int .i64 0, .iface 27 (.int .i64 e)]) := by
     show spanV _=_
     rw [getS_bad hg he];unfold spanV errV;rw [if_neg he];rfl
   have HG:=Lib.hid hg
   clear hg
   rw [HP.out]
   go_enter Tryz.func187,Tryz.ntmps187
   go_wp2_with (go_at_call 146;refine (get_bad _ _ hs2 e HG.out he).mono ?_;rintro r w' ⟨rfl,rfl⟩)
   go_ret3
   exact ⟨rfl,Below.refl _ _⟩
 · rw [←size_data] at hk3
   by_cases h2:2000 < n
   · have HP : Hid (spanV (getS s.data.toList) = .tuple #[.string ⟨#[]⟩, .int .i64 0, .iface 27 (.int .i64 4)]) := by
       show spanV _=_
       rw [getS_big hg h2];rfl
     have HG:=Lib.hid hg
     clear hg
     rw [HP.out]
     go_enter Tryz.func187,Tryz.ntmps187
     go_wp2_with (go_at_call 146;refine (get_ok _ _ hs2 n k HG.out).mono ?_;rintro r w' ⟨rfl,rfl⟩)
     go_ret3
     exact ⟨rfl,Below.refl _ _⟩
   · have h2':n≤2000:=by omega
     by_cases h3:s.size < k + n
     · have HP : Hid (spanV (getS s.data.toList) = .tuple #[.string ⟨#[]⟩, .int .i64 0, .iface 27 (.int .i64 7)]) := by
         show spanV _=_
         rw [getS_miss hg h2 (by rw [←size_data];exact h3)];rfl
       have HG:=Lib.hid hg
       clear hg h2
       rw [HP.out]
       go_enter Tryz.func187,Tryz.ntmps187
       go_wp2_with (go_at_call 146;refine (get_ok _ _ hs2 n k HG.out).mono ?_;rintro r w' ⟨rfl,rfl⟩)
       go_ret3
       exact ⟨rfl,Below.refl _ _⟩
     · have hx:s.extract k (k + n)=⟨((s.data.toList.drop k).take n).toArray⟩:=bs_ext (by rw [ext_data,List.drop_take,Nat.add_sub_cancel_left])
       have hxs:(s.extract k (k + n)).size≤281474976710656:=by rw [ByteArray.size_extract];omega
       have HP:Hid (spanV (getS s.data.toList)=.tuple #[.string (s.extract k (k + n)),.int .i64 ((k:Int) + n),.nilIface]):=by
         show spanV _=_
         rw [getS_ok hg h2 (by rw [←size_data];exact h3),hx];rfl
       have HG:=Lib.hid hg
       have h3':k + n≤s.size:=by omega
       clear hg h2 h3 hx
       rw [HP.out]
       go_enter Tryz.func187,Tryz.ntmps187
       go_wp2_with (first | (go_at_call 146;refine (get_ok _ _ hs2 n k HG.out).mono ?_;rintro r w' ⟨rfl,rfl⟩) | (go_at_call 145;refine (clone_any _ _ hxs).mono ?_;rintro r w1 ⟨rfl,hb1⟩))
       go_ret3
       exact ⟨rfl,by assumption⟩
end Go.Proofs.YtgfinhehgfbdgaaGreatDoor
