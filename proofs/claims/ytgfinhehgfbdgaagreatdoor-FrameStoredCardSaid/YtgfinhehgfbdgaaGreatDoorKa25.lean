import Derived.Test.YtgfinhehgfbdgaaGreatDoorKa24
import Derived.Test.YtgfinhehgfbdgaaGreatDoorKa11
import Derived.Test.YtgfinhehgfbdgaaGreatDoorKa18
namespace Go.Proofs.YtgfinhehgfbdgaaGreatDoor
open Go.RowKit
def tailF (T R K:Int) (key val:ByteArray) (N:Int):ByteArray×Nat:=if wriE T R K key val N=0 then (tailB K val N,0) else (⟨#[]⟩,wriE T R K key val N)
theorem tailF_bad {T R K:Int} {key val:ByteArray} {N:Int} (h:wriE T R K key val N≠0):tailF T R K key val N=(⟨#[]⟩,wriE T R K key val N):=if_neg h
theorem tailF_ok {T R K:Int} {key val:ByteArray} {N:Int} (h:wriE T R K key val N=0):tailF T R K key val N=(tailB K val N,0):=if_pos h
theorem errV_bad {e:Nat} (h:e≠0):errV e=.iface 27 (.int .i64 e):=by unfold errV;rw [if_neg h]
theorem zigN_of {N:Int} (h0 : -1125899906842624≤N) (h1:N≤1125899906842624):0≤zigN N∧zigN N≤2251799813685249:=by unfold zigN;split <;> omega
theorem numB_size {K N:Int} (h:fitsN K N=true):(numB K N).size≤10:=by
 unfold numB
 unfold fitsN at h
 by_cases h3:K=3
 · rw [if_pos h3] at h ⊢
   simp only [Bool.and_eq_true,decide_eq_true_eq] at h
   have:=zigN_of h.1 h.2
   rw [bs_size];exact putL_le10 (by omega)
 · rw [if_neg h3] at h ⊢
   by_cases h4:K=4
   · rw [if_pos h4] at h ⊢
     simp only [Bool.and_eq_true,decide_eq_true_eq] at h
     rw [bs_size];exact putL_le10 (by omega)
   · rw [if_neg h4];decide
theorem spanB_le {s:ByteArray} (h:s.size≤300):(spanB s).size≤310:=by
 rw [spanB_size];have:=putL_le10 (n:=s.size) (by omega);omega
set_option maxRecDepth 100000 in
set_option maxHeartbeats 1000000 in
theorem wnum_any (T R K:Int) (key val:ByteArray) (N:Int) (w:World) (h:fitsN K N=true) :
   Calls Tryz.prog 171 #[.agg #[.int .i64 T,.int .i64 R,.int .i64 K,.string key,.string val,.int .i64 N]] w fun e w'=>e=.returned (.string (numB K N))∧Below w.heap.size w w':=by
 unfold numB
 unfold fitsN at h
 by_cases h3:K=3
 · subst h3
   rw [if_pos rfl] at h ⊢
   simp only [Bool.and_eq_true,decide_eq_true_eq] at h
   obtain ⟨z0,z1⟩:=zigN_of h.1 h.2
   obtain ⟨n0,n1⟩:=h
   go_enter Tryz.func171,Tryz.ntmps171
   go_wp2_with fail
   refine (zig_any N _ (by omega) (by omega)).mono ?_
   rintro r w' ⟨rfl,rfl⟩
   go_wp2_with fail
   refine (put_any (zigN N) _ z0 (by omega)).mono ?_
   rintro r w2 ⟨rfl,hb2⟩
   have HB2:=Lib.hid (((Below.refl _ _).alloc (Nat.le_refl _) _).trans (hb2.mono (by simp)))
   clear hb2
   go_wp2
   go_ret
   exact ⟨rfl,HB2.out⟩
 · rw [if_neg h3] at h ⊢
   have b1:(K == 3)=false:=by simpa using h3
   by_cases h4:K=4
   · subst h4
     rw [if_pos rfl] at h ⊢
     simp only [Bool.and_eq_true,decide_eq_true_eq] at h
     obtain ⟨n0,n1⟩:=h
     have hw:IntKind.u64.wrap N=N:=IntWalk.u64_in N ⟨by omega,by omega⟩
     go_enter Tryz.func171,Tryz.ntmps171
     go_wp2_with fail
     refine (put_any N _ n0 (by omega)).mono ?_
     rintro r w2 ⟨rfl,hb2⟩
     have HB2:=Lib.hid (((Below.refl _ _).alloc (Nat.le_refl _) _).trans (hb2.mono (by simp)))
     clear hb2
     go_wp2
     go_ret
     exact ⟨rfl,HB2.out⟩
   · rw [if_neg h4]
     have b4:(K == 4)=false:=by simpa using h4
     go_enter Tryz.func171,Tryz.ntmps171
     go_wp2
     go_ret
     exact ⟨rfl,(Below.refl _ _).alloc (Nat.le_refl _) _⟩
def textV (r:ByteArray×Nat):Value:=.tuple #[.string r.1,errV r.2]
set_option maxRecDepth 100000 in
set_option maxHeartbeats 4000000 in
theorem wtail_any (T R K:Int) (key val:ByteArray) (N:Int) (w:World) (hk:key.size≤140737488351232) (hv:val.size≤140737488351232) :
   Calls Tryz.prog 118 #[.agg #[.int .i64 T,.int .i64 R,.int .i64 K,.string key,.string val,.int .i64 N]] w fun e w'=>e=.returned (textV (tailF T R K key val N))∧Below w.heap.size w w':=by
 have HN0:=Lib.hid (wrAt_new w T R K key val N 61)
 obtain ⟨E,hE⟩:∃ E,wriE T R K key val N=E:=⟨_,rfl⟩
 have HE:=Lib.hid hE
 clear hE
 go_enter Tryz.func118,Tryz.ntmps118
 go_wp2_with fail
 refine (wright_any T R K key val N _ hk hv).mono ?_
 rintro r w1 ⟨rfl,hb1⟩
 rw [HE.out]
 have HA1:=Lib.hid (HN0.out.below hb1 (by simp))
 have HB1:=Lib.hid (((Below.refl _ _).alloc (Nat.le_refl _) _).trans (hb1.mono (by simp)))
 have HL1:Hid (w.heap.size < w1.heap.size):=Lib.hid (by have:=hb1.size;simp at this;exact this)
 clear hb1
 by_cases h0:E=0
 · subst h0
   have HT:=Lib.hid (tailF_ok HE.out)
   obtain ⟨g1,g2,g3,g4,g5,g6⟩:=wriE_good HE.out
   have G6:=Lib.hid g6
   have G4:=Lib.hid g4
   clear g1 g2 g3 g5 g6
   obtain ⟨c0,c1,c2,c3,c4,c5⟩:=HA1.out
   rw [show errV 0=Value.nilIface from rfl]
   go_wp2_with fail
   refine (wnum_any T R K key val N _ G6.out).mono ?_
   rintro r w2 ⟨rfl,hb2⟩
   have HA2:=Lib.hid (HA1.out.below hb2 HL1.out)
   have HB2:=Lib.hid (HB1.out.trans (hb2.mono (Nat.le_of_lt HL1.out)))
   have hp:=numB_size G6.out
   obtain ⟨P,hP⟩:∃ P,numB K N=P:=⟨_,rfl⟩
   rw [hP] at hp ⊢
   have HP:=Lib.hid hP
   clear hb2 c0 c1 c2 c3 c4 c5 hP
   obtain ⟨c0,c1,c2,c3,c4,c5⟩:=HA2.out
   cases hV:hasV K with
   | false =>
     have HR:Hid (tailB K val N=P):=Lib.hid (show _=_ by
       unfold tailB valB;rw [HP.out,hV,if_neg (by decide)]
       exact bs_ext (by rw [app_data];simp))
     go_wp2_with (go_at_call 158;refine (hasv_any K false _ hV).mono ?_;rintro r w3 ⟨rfl,rfl⟩)
     go_ret2
     rw [HT.out,HR.out]
     exact ⟨rfl,HB2.out⟩
   | true =>
     have HR:Hid (tailB K val N=P ++ spanB val):=Lib.hid (show _=_ by unfold tailB valB;rw [HP.out,hV,if_pos rfl])
     have hs:=spanB_le g4
     obtain ⟨S,hS⟩:∃ S,spanB val=S:=⟨_,rfl⟩
     rw [hS] at hs HR
     have HS:=Lib.hid hS
     clear hS
     go_wp2_with (first
       | (go_at_call 158;refine (hasv_any K true _ hV).mono ?_;rintro r w3 ⟨rfl,rfl⟩)
       | (go_at_call 115;refine (sput_ok val _ (Nat.le_trans G4.out (by decide))).mono ?_;rintro r w4 ⟨rfl,hb4⟩;have HB4:=Lib.hid (HB2.out.trans (hb4.mono HB2.out.size));clear hb4;rw [HS.out]))
     go_ret2
     rw [HT.out,HR.out]
     exact ⟨rfl,HB4.out⟩
 · have HT:=Lib.hid (tailF_bad (by rw [HE.out];exact h0))
   rw [errV_bad h0]
   go_wp2
   go_ret2
   rw [HT.out,HE.out]
   refine ⟨?_,HB1.out⟩
   show _=Ending.returned (.tuple #[.string ⟨#[]⟩,errV E])
   rw [errV_bad h0]
   rfl
end Go.Proofs.YtgfinhehgfbdgaaGreatDoor
