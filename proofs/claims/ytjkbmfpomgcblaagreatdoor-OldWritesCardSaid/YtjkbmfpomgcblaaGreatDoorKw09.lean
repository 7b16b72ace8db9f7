import Derived.Test.YtjkbmfpomgcblaaGreatDoorKw08
import Derived.Deep.LoopGhost
import Derived.WalkSpells
import Derived.Lib.Join
import Derived.IntWalk
namespace Go.Proofs.YtjkbmfpomgcblaaGreatDoor
open Go.RowKit
theorem tell_nil (w:World):Calls Tryz.prog 39 #[.nilIface] w fun e w'=>e=.returned (.int .i64 0)∧w=w':=by
 go_enter Tryz.func39,Tryz.ntmps39
 go_wp2
 go_ret
 exact ⟨rfl,rfl⟩
theorem errT.alloc {w:World} (h:errT w) (o:Obj):errT (w.alloc o):=by
 unfold errT at h ⊢
 rw [World.cell?_alloc_lt _ _ _ (lt_of_cell h)];exact h
theorem errT.below {w w':World} (h:errT w) (hb:Below w.heap.size w w'):errT w':=by
 unfold errT at h ⊢
 rw [hb.cell (lt_of_cell h)];exact h
theorem asEnd {w w':World} {B:Nat} {e:Int} {old:Value} (hB:B < w.heap.size) (ht0:w.cell? ⟨B,0,none⟩=some old)
   (h:((asWorld w ⟨B,0,none⟩).alloc (.cells #[.int .i64 e] 44)).setCell ⟨B,0,none⟩ (.int .i64 e)=w'):w'.cell? ⟨B,0,none⟩=some (.int .i64 e)∧Below B w w':=by
 subst h
 have hs:(asWorld w ⟨B,0,none⟩).heap.size=w.heap.size + 1 + 1 + 1:=by simp [asWorld]
 have hc:((asWorld w ⟨B,0,none⟩).alloc (.cells #[.int .i64 e] 44)).cell? ⟨B,0,none⟩=some old:=by
   rw [World.cell?_alloc_lt _ _ _ (by rw [hs];show B < _;omega)]
   unfold asWorld
   rw [World.cell?_alloc_lt _ _ _ (by simp;omega),World.cell?_alloc_lt _ _ _ (by simp;omega),World.cell?_alloc_lt _ _ _ hB]
   exact ht0
 refine ⟨World.cell?_setCell_same _ _ _ hc,?_⟩
 refine Below.setCell ?_ (show B≤B from Nat.le_refl _) _
 refine Below.alloc ?_ (by rw [hs];omega) _
 unfold asWorld
 exact (((Below.refl _ _).alloc (by omega) _).alloc (by simp;omega) _).alloc (by simp;omega) _
def isErr (w:World) (v:Value) (e:Int):Prop :=
 v=.iface 44 (.int .i64 e)∨∃ b off pl,v=.iface 111 (.pointer (some ⟨b,off,none⟩))∧w.cell? ⟨b,off,none⟩=some (.int .i64 e)∧w.cell? ⟨b,off + 1,none⟩=some (.int .i64 pl)
theorem as_err (v:Value) (e:Int) (B:Nat) (old:Value) (w:World) (hg:errT w) (hB:B < w.heap.size) (ht0:w.cell? ⟨B,0,none⟩=some old) (hf0:w.frozen? ⟨B,0,none⟩=false) (hv:isErr w v e) :
   Calls Tryz.prog 86 #[v,.iface 109 (.pointer (some ⟨B,0,none⟩))] w fun ev w'=>ev=.returned (.bool true)∧w'.cell? ⟨B,0,none⟩=some (.int .i64 e)∧Below B w w':=by
 rcases hv with rfl | ⟨b,off,pl,rfl,hp,_⟩
 · exact (as_errno e _ old w hg ht0 hf0).mono fun _ _ ⟨h1,h2⟩=>⟨h1,asEnd hB ht0 h2⟩
 · exact (as_at e b off _ old w hg ht0 hf0 hp).mono fun _ _ ⟨h1,h2⟩=>⟨h1,asEnd hB ht0 h2⟩
theorem isErr.alloc {w:World} {v:Value} {e:Int} (h:isErr w v e) (o:Obj):isErr (w.alloc o) v e:=by
 rcases h with h | ⟨b,off,pl,h1,h2,h3⟩
 · exact .inl h
 · exact .inr ⟨b,off,pl,h1,by rw [World.cell?_alloc_lt _ _ _ (lt_of_cell h2)];exact h2,by rw [World.cell?_alloc_lt _ _ _ (lt_of_cell h3)];exact h3⟩
theorem isErr.below {w w':World} {v:Value} {e:Int} (h:isErr w v e) (hb:Below w.heap.size w w'):isErr w' v e:=by
 rcases h with h | ⟨b,off,pl,h1,h2,h3⟩
 · exact .inl h
 · exact .inr ⟨b,off,pl,h1,by rw [hb.cell (lt_of_cell h2)];exact h2,by rw [hb.cell (lt_of_cell h3)];exact h3⟩
theorem isErr.iface {w:World} {v:Value} {e:Int} (h:isErr w v e):∃ t u,v=.iface t u:=by
 rcases h with h | ⟨b,off,pl,h1,h2,h3⟩
 · exact ⟨_,_,h⟩
 · exact ⟨_,_,h1⟩
set_option maxRecDepth 100000 in
set_option maxHeartbeats 1000000 in
theorem tell_err (v:Value) (e:Int) (w:World) (hg:errT w) (hv:isErr w v e):Calls Tryz.prog 39 #[v] w fun r w'=>r=.returned (.int .i64 e)∧Below w.heap.size w w':=by
 have HG:=Lib.hid (hg.alloc (.cells #[.int .i64 0] 44))
 have HV:=Lib.hid (hv.alloc (.cells #[.int .i64 0] 44))
 obtain ⟨t,u,rfl⟩:=hv.iface
 clear hg hv
 go_enter Tryz.func39,Tryz.ntmps39
 go_wp2_with (go_at_call 86;refine (as_err _ e w.heap.size (.int .i64 0) _ HG.out (by simp) (by simp) (by simp) HV.out).mono ?_;rintro ev w' ⟨rfl,hc,hb⟩;clear HG HV)
 go_ret
 exact ⟨rfl,((Below.refl _ _).alloc (Nat.le_refl _) _).trans (by assumption)⟩
end Go.Proofs.YtjkbmfpomgcblaaGreatDoor
namespace Go.Proofs.YtjkbmfpomgcblaaGreatDoor
open Go.RowKit
theorem put_nat (n:Nat) (w:World) (h:n≤18446744073709551615) :
   Calls Tryz.prog 89 #[.int .u64 (n:Int)] w fun e w'=>e=.returned (.string ⟨(putL n).toArray⟩)∧Below w.heap.size w w' :=
 put_any (n:Int) w (by omega) (by omega)
end Go.Proofs.YtjkbmfpomgcblaaGreatDoor
namespace Go.Proofs.YtjkbmfpomgcblaaGreatDoor
open Go.RowKit
def placeIs (w:World) (v:Value) (e pl:Int):Prop :=
 (v=.nilIface∧e=0∧pl=-1)∨(v=.iface 44 (.int .i64 e)∧pl=-1)∨∃ b off,v=.iface 111 (.pointer (some ⟨b,off,none⟩))∧w.cell? ⟨b,off,none⟩=some (.int .i64 e)∧w.cell? ⟨b,off + 1,none⟩=some (.int .i64 pl)
theorem placeIs.alloc {w:World} {v:Value} {e pl:Int} (h:placeIs w v e pl) (o:Obj):placeIs (w.alloc o) v e pl:=by
 rcases h with h | h | ⟨b,off,h1,h2,h3⟩
 · exact .inl h
 · exact .inr (.inl h)
 · exact .inr (.inr ⟨b,off,h1,by rw [World.cell?_alloc_lt _ _ _ (lt_of_cell h2)];exact h2,by rw [World.cell?_alloc_lt _ _ _ (lt_of_cell h3)];exact h3⟩)
theorem placeIs.below {w w':World} {v:Value} {e pl:Int} (h:placeIs w v e pl) (hb:Below w.heap.size w w'):placeIs w' v e pl:=by
 rcases h with h | h | ⟨b,off,h1,h2,h3⟩
 · exact .inl h
 · exact .inr (.inl h)
 · exact .inr (.inr ⟨b,off,h1,by rw [hb.cell (lt_of_cell h2)];exact h2,by rw [hb.cell (lt_of_cell h3)];exact h3⟩)
set_option maxRecDepth 100000 in
set_option maxHeartbeats 1000000 in
theorem place_nil (w:World):Calls Tryz.prog 69 #[.nilIface] w fun r w'=>r=.returned (.tuple #[.int .i64 0,.int .i64 (-1)])∧w=w':=by
 go_enter Tryz.func69,Tryz.ntmps69
 go_wp2_with (go_at_call 39;refine (tell_nil _).mono ?_;rintro e w' ⟨rfl,rfl⟩)
 refine wp_loop_rounds 1 ?_
 rw [rounds_succ]
 go_wp2
 go_ret2
 exact ⟨rfl,rfl⟩
set_option maxRecDepth 100000 in
set_option maxHeartbeats 1000000 in
theorem place_errno (e:Int) (w:World) (hg:errT w):Calls Tryz.prog 69 #[.iface 44 (.int .i64 e)] w fun r w'=>r=.returned (.tuple #[.int .i64 e,.int .i64 (-1)])∧Below w.heap.size w w':=by
 have nU:=As.noUnwrapE
 have nA:=As.noAtE
 have HG:=Lib.hid hg
 clear hg
 go_enter Tryz.func69,Tryz.ntmps69
 go_wp2_with (go_at_call 39;refine (tell_err _ e _ HG.out (.inl rfl)).mono ?_;rintro r w' ⟨rfl,hb⟩)
 refine wp_loop_rounds 1 ?_
 rw [rounds_succ]
 go_wp2
 go_ret2
 exact ⟨rfl,by assumption⟩
set_option maxRecDepth 100000 in
set_option maxHeartbeats 1000000 in
theorem place_at (e pl:Int) (b off:Nat) (w:World) (hg:errT w) (hc0:w.cell? ⟨b,off,none⟩=some (.int .i64 e)) (hc1:w.cell? ⟨b,off + 1,none⟩=some (.int .i64 pl)) :
   Calls Tryz.prog 69 #[.iface 111 (.pointer (some ⟨b,off,none⟩))] w fun r w'=>r=.returned (.tuple #[.int .i64 e,.int .i64 pl])∧Below w.heap.size w w':=by
 have iA:=As.isAtA
 have HG:=Lib.hid hg
 have HV:Hid (isErr w (.iface 111 (.pointer (some ⟨b,off,none⟩))) e):=.inr ⟨b,off,pl,rfl,hc0,hc1⟩
 have H1:=Lib.hid hc1
 have hlt:=lt_of_cell hc0
 clear hg hc0 hc1
 go_enter Tryz.func69,Tryz.ntmps69
 go_wp2_with fail
 refine (tell_err _ e _ HG.out HV.out).mono ?_
 rintro r w1 ⟨rfl,hb⟩
 have hc1:w1.cell? ⟨b,off + 1,none⟩=some (.int .i64 pl):=(hb.cell hlt).trans H1.out
 have HB:=Lib.hid hb
 clear hb
 go_wp2
 refine wp_loop_rounds 1 ?_
 rw [rounds_succ]
 go_wp2
 go_quiet (fail)
 go_wp2
 go_ret2
 exact ⟨rfl,below_drewN HB.out _⟩
theorem place_any (v:Value) (e pl:Int) (w:World) (hg:errT w) (h:placeIs w v e pl) :
   Calls Tryz.prog 69 #[v] w fun r w'=>r=.returned (.tuple #[.int .i64 e,.int .i64 pl])∧Below w.heap.size w w':=by
 rcases h with ⟨rfl,rfl,rfl⟩ | ⟨rfl,rfl⟩ | ⟨b,off,rfl,h0,h1⟩
 · exact (place_nil w).mono fun _ _ ⟨h1,h2⟩=>⟨h1,h2 ▸ Below.refl _ _⟩
 · exact place_errno e w hg
 · exact place_at e pl b off w hg h0 h1
set_option maxRecDepth 100000 in
theorem placed_ok (v:Value) (e pl:Int) (w:World) (hg:errT w) (h:placeIs w v e pl) :
   Calls Tryz.prog 31 #[v,.agg #[.int .i64 e,.int .i64 pl]] w fun r w'=>r=.returned (.bool true)∧Below w.heap.size w w':=by
 have HG:=Lib.hid (hg.alloc (.cells #[.int .i64 e,.int .i64 pl] 46))
 have HP:=Lib.hid (h.alloc (.cells #[.int .i64 e,.int .i64 pl] 46))
 clear hg h
 go_enter Tryz.func31,Tryz.ntmps31
 go_wp2_with fail
 refine (place_any _ _ _ _ HG.out HP.out).mono ?_
 rintro r w1 ⟨rfl,hb⟩
 have c0:w1.cell? ⟨w.heap.size,0,none⟩=some (.int .i64 e):=(hb.cell (by simp)).trans (by simp)
 have c1:w1.cell? ⟨w.heap.size,1,none⟩=some (.int .i64 pl):=(hb.cell (by simp)).trans (by simp)
 have HB:Hid (Below w.heap.size w w1):=((Below.refl _ _).alloc (Nat.le_refl _) _).trans (hb.mono (by simp))
 clear hb HG HP
 go_wp2
 go_ret
 exact ⟨rfl,HB.out⟩
end Go.Proofs.YtjkbmfpomgcblaaGreatDoor
namespace Go.Proofs.YtjkbmfpomgcblaaGreatDoor
def consec:Int→List Ent→Prop
 | _,[]=>True
 | r,e :: t=>e.rep=r∧consec (r + 1) t
theorem consec_snoc {l:List Ent} {e:Ent}:∀ {r:Int},consec r l→e.rep=r + l.length→consec r (l ++ [e]):=by
 induction l with
 | nil=>intro r _ h;exact ⟨by simpa using h,trivial⟩
 | cons d t ih=>intro r h he;exact ⟨h.1,ih h.2 (by rw [he,List.length_cons];omega)⟩
theorem consec_last {l:List Ent}:∀ {r:Int},consec r l→l≠[]→(l.getLastD ⟨0,0⟩).rep=r + l.length - 1:=by
 induction l with
 | nil=>intro r _ h0;exact absurd rfl h0
 | cons e t ih =>
   intro r h _
   cases t with
   | nil=>have:=h.1;simp;omega
   | cons d u =>
     have h3:=ih h.2 (by simp)
     rw [List.getLastD_cons] at h3 ⊢
     rw [List.getLastD_cons]
     simp only [List.length_cons] at h3 ⊢
     omega
def isRuns:Int→List (List Ent)→Prop
 | _,[]=>True
 | least,run :: rs=>run≠[]∧least≤(run.headD ⟨0,0⟩).rep∧consec (run.headD ⟨0,0⟩).rep run∧isRuns ((run.getLastD ⟨0,0⟩).rep + 2) rs
def cutA:List Ent→List Ent→List (List Ent)
 | _,[]=>[]
 | cur,[e]=>[cur ++ [e]]
 | cur,e :: d :: r=>if e.rep + 1 < d.rep then (cur ++ [e]) :: cutA [] (d :: r) else cutA (cur ++ [e]) (d :: r)
def runsL (l:List Ent):List (List Ent):=cutA [] l
theorem cutA_one (cur:List Ent) (e:Ent):cutA cur [e]=[cur ++ [e]]:=rfl
theorem cutA_cut {cur r:List Ent} {e d:Ent} (h:e.rep + 1 < d.rep):cutA cur (e :: d :: r)=(cur ++ [e]) :: cutA [] (d :: r):=by rw [cutA,if_pos h]
theorem cutA_on {cur r:List Ent} {e d:Ent} (h:¬ e.rep + 1 < d.rep):cutA cur (e :: d :: r)=cutA (cur ++ [e]) (d :: r):=by rw [cutA,if_neg h]
theorem headD_app {l:List Ent} (m:List Ent) (h:l≠[]) (d:Ent):(l ++ m).headD d=l.headD d:=by
 cases l with
 | nil=>exact absurd rfl h
 | cons e t=>rfl
theorem getLastD_snoc (l:List Ent) (e d:Ent):(l ++ [e]).getLastD d=e:=by
 simp
theorem cutA_is (r:List Ent):∀ (cur:List Ent) (e:Ent) (least last:Int),okV last (e :: r)→(cur=[]→least≤e.rep)→(cur≠[]→least≤(cur.headD ⟨0,0⟩).rep∧consec (cur.headD ⟨0,0⟩).rep cur∧e.rep=(cur.headD ⟨0,0⟩).rep + cur.length) →
   isRuns least (cutA cur (e :: r))∧(cutA cur (e :: r)).flatten=cur ++ e :: r:=by
 induction r with
 | nil =>
   intro cur e least last h h0 h1
   rw [cutA_one]
   refine ⟨⟨by simp,?_,?_,trivial⟩,by simp⟩
   · by_cases hc:cur=[]
     · subst hc;exact h0 rfl
     · rw [headD_app _ hc];exact (h1 hc).1
   · by_cases hc:cur=[]
     · subst hc;exact ⟨rfl,trivial⟩
     · rw [headD_app _ hc];exact consec_snoc (h1 hc).2.1 (h1 hc).2.2
 | cons d r ih =>
   intro cur e least last h h0 h1
   have hd:=h.2.1
   rw [wrE_ok] at hd
   have hcons:consec ((cur ++ [e]).headD ⟨0,0⟩).rep (cur ++ [e]):=by
     by_cases hc:cur=[]
     · subst hc;exact ⟨rfl,trivial⟩
     · rw [headD_app _ hc];exact consec_snoc (h1 hc).2.1 (h1 hc).2.2
   have hlow:least≤((cur ++ [e]).headD ⟨0,0⟩).rep:=by
     by_cases hc:cur=[]
     · subst hc;exact h0 rfl
     · rw [headD_app _ hc];exact (h1 hc).1
   by_cases hg:e.rep + 1 < d.rep
   · rw [cutA_cut hg]
     obtain ⟨i1,i2⟩:=ih [] d (e.rep + 2) e.rep h.2 (fun _=>by omega) (fun hn=>absurd rfl hn)
     refine ⟨⟨by simp,hlow,hcons,?_⟩,?_⟩
     · rw [getLastD_snoc];exact i1
     · rw [List.flatten_cons,i2];simp
   · rw [cutA_on hg]
     obtain ⟨i1,i2⟩:=ih (cur ++ [e]) d least e.rep h.2 (fun hn=>absurd hn (by simp)) (fun _=>⟨hlow,hcons,by
       have:=consec_last hcons (by simp)
       rw [getLastD_snoc] at this
       omega⟩)
     exact ⟨i1,by rw [i2];simp⟩
theorem runs_is {l:List Ent} (h:okV (-1) l):isRuns 0 (runsL l)∧(runsL l).flatten=l:=by
 cases l with
 | nil=>exact ⟨trivial,rfl⟩
 | cons e r =>
   have:=h.1
   rw [wrE_ok] at this
   have h2:=cutA_is r [] e 0 (-1) h (fun _=>by omega) (fun hn=>absurd rfl hn)
   exact h2
def timesB (l:List Ent):List UInt8:=l.flatMap fun e=>putL e.time.toNat
def runB (least:Int) (run:List Ent):List UInt8:=putL ((run.headD ⟨0,0⟩).rep - least).toNat ++ putL (run.length - 1) ++ timesB run
def runsB:Int→List (List Ent)→List UInt8
 | _,[]=>[]
 | least,run :: rs=>runB least run ++ runsB ((run.getLastD ⟨0,0⟩).rep + 2) rs
def vwriteL (l:List Ent):List UInt8:=putL (runsL l).length ++ runsB 0 (runsL l)
def vwriteF (l:List Ent):List UInt8:=if (vrightF l).1=0 then vwriteL l else []
theorem timesB_cons (e:Ent) (l:List Ent):timesB (e :: l)=putL e.time.toNat ++ timesB l:=by simp [timesB]
theorem timesB_app (a b:List Ent):timesB (a ++ b)=timesB a ++ timesB b:=by simp [timesB]
end Go.Proofs.YtjkbmfpomgcblaaGreatDoor
namespace Go.Proofs.YtjkbmfpomgcblaaGreatDoor
open Go.RowKit
def spanL (l:List UInt8):List UInt8:=putL l.length ++ l
def spanB (s:ByteArray):ByteArray:=⟨(putL s.size).toArray⟩ ++ s
theorem spanB_data (s:ByteArray):(spanB s).data.toList=spanL s.data.toList:=by unfold spanB spanL;rw [app_data,←size_data]
theorem spanB_size (s:ByteArray):(spanB s).size=(putL s.size).length + s.size:=by unfold spanB;rw [app_size,bs_size]
set_option maxRecDepth 100000 in
set_option maxHeartbeats 1000000 in
theorem sput_ok (s:ByteArray) (w:World) (hs:s.size≤2000) :
   Calls Tryz.prog 93 #[.string s] w fun r w'=>r=.returned (.tuple #[.string (spanB s),.nilIface])∧Below w.heap.size w w':=by
 have hl:=putL_le10 (n:=s.size) (by omega)
 have HP:Hid (spanB s=⟨(putL s.size).toArray⟩ ++ s):=rfl
 go_enter Tryz.func93,Tryz.ntmps93
 go_wp2_with (go_at_call 89;refine (put_nat s.size _ (by omega)).mono ?_;rintro r w1 ⟨rfl,hb1⟩)
 go_ret2
 exact ⟨by rw [HP.out];rfl,by assumption⟩
end Go.Proofs.YtjkbmfpomgcblaaGreatDoor
namespace Go.Proofs.YtjkbmfpomgcblaaGreatDoor
open Go.RowKit
theorem atIs.iface {w:World} {v:Value} {r:Nat×Int} (h:atIs w v r) (h0:r.1≠0):∃ t u,v=.iface t u:=by
 rcases h with ⟨h,_⟩ | ⟨_,b,h,_⟩
 · exact absurd (by rw [h]) h0
 · exact ⟨_,_,h⟩
theorem atIs.nil {w:World} {v:Value} {r:Nat×Int} (h:atIs w v r) (h0:r.1=0):v=.nilIface:=by
 rcases h with ⟨_,h⟩ | ⟨h,_⟩
 · exact h
 · exact absurd h0 h
end Go.Proofs.YtjkbmfpomgcblaaGreatDoor
namespace Go.Proofs.YtjkbmfpomgcblaaGreatDoor
open Go.RowKit
theorem rseal_to (s T:ByteArray) (w:World) (hs:s.size≤1000000) (hT:sealL s.data.toList=T.data.toList) :
   Calls Tryz.prog 66 #[.string s] w fun e w'=>e=.returned (.string T)∧Below w.heap.size w w':=by
 have h:=refseal_any s w hs
 rw [show sealB s=T from bytes_ext (by rw [sealB_data,hT])] at h
 exact h
end Go.Proofs.YtjkbmfpomgcblaaGreatDoor
namespace Go.Proofs.YtjkbmfpomgcblaaGreatDoor
open Go.RowKit
theorem atIs.place {w:World} {v:Value} {e:Nat} {pl:Int} (h:atIs w v (e,pl)):placeIs w v e pl:=by
 rcases h with ⟨h1,h2⟩ | ⟨_,b,h1,_,h3,h4⟩
 · simp only [Prod.mk.injEq] at h1
   exact .inl ⟨h2,by omega,h1.2⟩
 · exact .inr (.inr ⟨b,0,h1,h3,h4⟩)
theorem atIs.isErr {w:World} {v:Value} {r:Nat×Int} (h:atIs w v r) (h0:r.1≠0):isErr w v (r.1:Nat):=by
 rcases h with ⟨h1,h2⟩ | ⟨_,b,h1,_,h3,h4⟩
 · exact absurd (by rw [h1]) h0
 · exact .inr ⟨b,0,_,h1,h3,h4⟩
def anyErr (w:World) (v:Value) (r:Nat×Int):Prop:=atIs w v r∨(r.1≠0∧r.2=-1∧v=.iface 44 (.int .i64 (r.1:Nat)))
theorem anyErr.below {w w':World} {v:Value} {r:Nat×Int} (h:anyErr w v r) (hb:Below w.heap.size w w'):anyErr w' v r:=by
 rcases h with h | h
 · exact .inl (h.below hb)
 · exact .inr h
theorem anyErr.nil {w:World} {v:Value} {r:Nat×Int} (h:anyErr w v r) (h0:r.1=0):v=.nilIface:=by
 rcases h with (⟨_,h⟩ | ⟨h,_⟩) | ⟨h,_⟩
 · exact h
 · exact absurd h0 h
 · exact absurd h0 h
theorem anyErr.iface {w:World} {v:Value} {r:Nat×Int} (h:anyErr w v r) (h0:r.1≠0):∃ t u,v=.iface t u:=by
 rcases h with (⟨h,_⟩ | ⟨_,b,h,_⟩) | ⟨_,_,h⟩
 · exact absurd (by rw [h]) h0
 · exact ⟨_,_,h⟩
 · exact ⟨_,_,h⟩
theorem anyErr.place {w:World} {v:Value} {e:Nat} {pl:Int} (h:anyErr w v (e,pl)):placeIs w v e pl:=by
 rcases h with h | ⟨_,h1,h2⟩
 · exact h.place
 · exact .inr (.inl ⟨h2,h1⟩)
theorem anyErr.isErr {w:World} {v:Value} {r:Nat×Int} (h:anyErr w v r) (h0:r.1≠0):isErr w v (r.1:Nat):=by
 rcases h with h | ⟨_,h1,h2⟩
 · exact h.isErr h0
 · exact .inl h2
def VRightIs (w:World) (r:Nat×Int) (e:Ending) (w':World):Prop :=
 ∃ v,e=.returned v∧anyErr w' v r∧Below w.heap.size w w'
theorem undrew3 {w w':World} (h:Below w.drew.heap.size w.drew w'):Below w.heap.size w w':=((Below.refl _ _).drew).trans h
theorem below_drewq {w w':World} {B:Nat} (h:Below B w w') (q:Nat):Below B w (w'.drewN q):=by
 induction q with
 | zero=>exact h
 | succ q ih=>exact ih.drew
end Go.Proofs.YtjkbmfpomgcblaaGreatDoor
namespace Go.Proofs.YtjkbmfpomgcblaaGreatDoor
open Go.RowKit
def NonB (b:Nat) (w w':World):Prop:=∀ k,k < w.heap.size→k≠b→(∀ cs fz,w.heap[k]? ≠ some (.cells cs 5 fz))→w'.heap[k]? = w.heap[k]?
theorem NonB.of {b:Nat} {w w':World} (h:Below w.heap.size w w'):NonB b w w':=fun k hk _ _=>h.block k hk
theorem NonB.trans {b:Nat} {w w1 w2:World} (h:NonB b w w1) (k:NonB b w1 w2) (hs:w.heap.size≤w1.heap.size):NonB b w w2:=fun i hi hb hu=>by
 have e:=h i hi hb hu
 exact (k i (by omega) hb (fun cs fz=>by rw [e];exact hu cs fz)).trans e
theorem NonB.row {b:Nat} {w w':World} {base size n:Nat} {e:TypeId} {v:Value} {xs:List Value} (h:NonB b w w') (ho:w.ownsRow base e size v n xs) (he:e≠5) (hb:v.ownBlock≠some b):w'.ownsRow base e size v n xs:=by
 have hlt:=World.ownsRow.lt ho
 refine ⟨ho.1,?_⟩
 rcases ho.2 with h1 | ⟨g,cap,cur,hv,hbg,hh,r⟩
 · exact .inl h1
 · subst hv
   refine .inr ⟨g,cap,cur,rfl,hbg,?_,r⟩
   rw [h g (hlt g rfl).2 (fun hc=>hb (by rw [hc];rfl)) (fun cs fz hc=>by rw [hh] at hc;injection hc with hc;injection hc with _ ht;exact he ht)]
   exact hh
theorem copy_any2 (B b:Nat) (l:List UInt8) (w:World) (h:isBld w B b l) :
   Calls Tryz.prog 92 #[.pointer (some ⟨b,0,none⟩)] w fun e w'=>e=.returned (.tuple #[])∧Lib.BuilderAt 64 5 B b (.pointer (some ⟨b,0,none⟩)) (Lib.byteCells l) w'∧Below B w w'∧NonB b w w'∧w'.heap.size=w.heap.size:=by
 rcases h with h | h
 · refine (copy_fresh b w h.cell0 h.shape h.frozen0).mono ?_
   rintro e w' ⟨rfl,rfl⟩
   exact ⟨rfl,h.used _,(Below.refl B w).setCell (p:=⟨b,0,none⟩) h.1 _,fun k _ hk _=>heap_setCell_other _ _ _ _ (fun e=>hk e),by simp⟩
 · refine (copy_used b w h.cell0).mono ?_
   rintro e w' ⟨rfl,rfl⟩
   exact ⟨rfl,h,Below.refl B _,fun k _ _ _=>rfl,rfl⟩
set_option maxRecDepth 100000 in
set_option maxHeartbeats 2000000 in
theorem bld_write2 (B b:Nat) (l:List UInt8) (s:ByteArray) (w:World) (h:isBld w B b l) (hlen:l.length + s.size≤140737488355328) (hBw:B≤w.heap.size) :
   Calls Tryz.prog 44 #[.pointer (some ⟨b,0,none⟩),.string s] w fun e w'=>e=.returned (.tuple #[.int .i64 s.size,.nilIface])∧isBld w' B b (l ++ s.data.toList)∧Below B w w'∧NonB b w w':=by
 obtain ⟨i0,hi,hz0,hz1,hz2⟩:=info_parts info_u8
 have hbl:(Lib.byteCells l).length=l.length:=by simp [Lib.byteCells]
 go_enter Tryz.func44,Tryz.ntmps44
 go_wp2_with fail
 refine (copy_any2 B b l _ h).mono ?_
 rintro e w1 ⟨rfl,h1,hb1,hn1,hs1⟩
 have HN1:=Lib.hid hn1
 have HS1:=Lib.hid hs1
 obtain ⟨hB,v,hbk,hown,hne⟩:=h1
 have c0:w1.cell? ⟨b,0,none⟩=some (.pointer (some ⟨b,0,none⟩)):=by rw [Lib.cell_of_heap hbk];rfl
 have c1:w1.cell? ⟨b,1,none⟩=some v:=by rw [Lib.cell_of_heap hbk];rfl
 clear hn1 hs1
 go_wp2_with (at_builtin;refine Lib.wpList_append_own_string _ rfl _ _ 60 9 rfl B 5 i0 Tryz.underlying60 Tryz.underlying9 hi hz0 hz1 hz2 _ _ _ rfl hown s rfl ?c3 ?c4 ?c5 ?_)
 case c3=>rw [hbl];unfold maxLen;omega
 case c4=>rw [hbl];omega
 case c5=>have:=hb1.size;omega
 intro v' w2 hown' hgrow _
 have hlt:b < w1.heap.size:=by
   rcases Nat.lt_or_ge b w1.heap.size with h' | h'
   · exact h'
   · simp [Array.getElem?_eq_none h'] at hbk
 have hb2:w2.heap[b]? = some (.cells #[.pointer (some ⟨b,0,none⟩),v] 64 (0,0)):=by
   rw [hgrow.block b hlt (fun e=>hne e.symm)]
   exact hbk
 have d0:w2.cell? ⟨b,0,none⟩=some (.pointer (some ⟨b,0,none⟩)):=by rw [Lib.cell_of_heap hb2];rfl
 have d1:w2.cell? ⟨b,1,none⟩=some v:=by rw [Lib.cell_of_heap hb2];rfl
 have f1:w2.frozen? ⟨b,1,none⟩=false:=Lib.frozen_of_heap hb2 1
 obtain ⟨ao,n',cap,rfl⟩:∃ ao n' cap,v'=.slice ao n' cap:=by
   rcases hown'.2 with ⟨hv,_⟩ | ⟨g,cap,cur,hv,_⟩
   · exact ⟨_,_,_,hv⟩
   · exact ⟨_,_,_,hv⟩
 have HO:Hid (w2.ownsRow B 5 1 (.slice ao n' cap) (Lib.byteCells (l ++ s.data.toList)).length (Lib.byteCells (l ++ s.data.toList))):=by
   have h:w2.ownsRow B 5 1 (.slice ao n' cap) (Lib.byteCells (l ++ s.data.toList)).length (Lib.byteCells (l ++ s.data.toList)):=by
     have e:Lib.byteCells (l ++ s.data.toList)=Lib.byteCells l ++ Lib.strCells s:=by simp [Lib.byteCells,Lib.strCells]
     rw [e,List.length_append,Lib.strCells_length,hbl]
     exact hown'
   exact h
 have HNB:Hid (NonB b w1 w2):=Lib.hid (show NonB b w1 w2 from fun k hk hkb hu=>hgrow.block k hk (fun e=>by
   rcases hown.2 with ⟨hv,_⟩ | ⟨g,cap',cur,hv,_,hh,_⟩
   · rw [hv] at e;cases e
   · rw [hv] at e
     have:k=g:=by simpa [Value.ownBlock] using e
     subst this
     exact hu _ _ hh))
 have HSZ:Hid (w1.heap.size≤w2.heap.size):=Lib.hid hgrow.size
 clear hown'
 go_wp2
 go_ret2
 refine ⟨rfl,.inr ?_,?_,?_⟩
 · exact Lib.BuilderAt.put (T:=64) (e:=5) hB hb2 HO.out (by decide)
 · exact (hb1.grown hgrow (by have:=hb1.size;omega) (fun k hk=>(hown.lt k hk).1)).setCell (p:=⟨b,1,none⟩) hB _
 · refine ((HN1.out.trans HNB.out (by rw [HS1.out];exact Nat.le_refl _)).trans (fun k _ hk _=>heap_setCell_other _ _ _ _ (fun e=>hk e)) ?_)
   rw [←HS1.out];exact HSZ.out
end Go.Proofs.YtjkbmfpomgcblaaGreatDoor
namespace Go.Proofs.YtjkbmfpomgcblaaGreatDoor
open Go.RowKit
set_option maxRecDepth 100000 in
set_option maxHeartbeats 2000000 in
theorem vwrong_any (v:Value) (l:List Ent) (k:Nat) (e:Ent) (last:Int) (w:World) (hv:IsEnts w v l) (hl:l.length≤1000000) (he:l[k]? = some e) (h0:(k=0∧last=-1)∨∃ j d,k=j + 1∧l[j]? = some d∧last=d.rep) :
   Calls Tryz.prog 195 #[v,.int .i64 (k:Int)] w fun r w'=>r=.returned (.int .i64 (wrE e last:Nat))∧Below w.heap.size w w':=by
 obtain ⟨a1,c1,rfl,f1⟩:=hv.form
 obtain ⟨n,hn⟩:∃ n,n=l.length:=⟨_,rfl⟩
 have hkl:k < n:=by rw [hn];exact (List.getElem?_eq_some_iff.1 he).1
 rw [←hn] at hl ⊢
 obtain ⟨b1,o1,rfl,hb1,p0,p1⟩:=f1 k e he
 obtain ⟨rep,time⟩:=e
 simp only at p0 p1
 by_cases hr:rep < 0∨200 < rep∨time < 1∨1099511627776 < time
 · have HW:Hid (wrE ⟨rep,time⟩ last=2):=Lib.hid (wrE_range hr)
   have HR:=Lib.hid hr
   clear hv f1 hn he h0 hr
   rw [HW.out]
   by_cases h1:rep < 0
   · go_enter Tryz.func195,Tryz.ntmps195
     go_wp2
     go_ret
     exact ⟨rfl,(Below.refl _ _).alloc (Nat.le_refl _) _⟩
   · by_cases h2:200 < rep
     · go_enter Tryz.func195,Tryz.ntmps195
       go_wp2
       go_ret
       exact ⟨rfl,(Below.refl _ _).alloc (Nat.le_refl _) _⟩
     · by_cases h3:time < 1
       · go_enter Tryz.func195,Tryz.ntmps195
         go_wp2
         go_ret
         exact ⟨rfl,(Below.refl _ _).alloc (Nat.le_refl _) _⟩
       · have h4:1099511627776 < time:=by have:=HR.out;omega
         go_enter Tryz.func195,Tryz.ntmps195
         go_wp2
         go_ret
         exact ⟨rfl,(Below.refl _ _).alloc (Nat.le_refl _) _⟩
 · have g1:0≤rep:=by omega
   have g2:rep≤200:=by omega
   have g3:1≤time:=by omega
   have g4:time≤1099511627776:=by omega
   rcases h0 with ⟨hk0,rfl⟩ | ⟨j,d,rfl,hd,rfl⟩
   · have HW:Hid (wrE ⟨rep,time⟩ (-1)=0):=Lib.hid (wrE_fine hr (by simp only;omega))
     have z1:¬ 0 < k:=by omega
     have z2:decide (0 < k)=false:=by simp;omega
     have z3:decide ((0:Int) < (k:Int))=false:=by simp;omega
     clear hv f1 hn he hr hk0
     rw [HW.out]
     go_enter Tryz.func195,Tryz.ntmps195
     go_wp2
     go_quiet (fail)
     go_wp2
     go_ret
     exact ⟨rfl,below_drewN ((Below.refl _ _).alloc (Nat.le_refl _) _) _⟩
   · obtain ⟨b2,o2,hbo,_,q0,_⟩:=f1 j d hd
     simp only [Option.some.injEq,Addr.mk.injEq,and_true] at hbo
     obtain ⟨rfl,rfl⟩:=hbo
     obtain ⟨last,dt⟩:=d
     simp only at q0
     obtain ⟨k,hk⟩:∃ k,k=j + 1:=⟨_,rfl⟩
     rw [←hk] at he hkl p0 p1 ⊢
     have hj1:(k:Int) - 1=(j:Int):=by omega
     have hj2:IntKind.i64.wrap ((k:Int) - 1)=(j:Int):=by rw [hj1];exact IntWalk.i64_in _ (by omega)
     have hk0:(0:Int) < (k:Int):=by omega
     have z1:0 < k:=by omega
     have z2:decide (0 < k)=true:=by simp;omega
     have z3:decide ((0:Int) < (k:Int))=true:=by simp;omega
     have hjn:(j:Int) < (n:Int):=by omega
     have hjn':j < n:=by omega
     have hj0:(0:Int)≤(j:Int):=by omega
     have q0':=(World.cell?_alloc_lt w (.cells #[.int .i64 rep,.int .i64 time] 74) (⟨b1,o1 + j * 2,none⟩:Addr) hb1).trans q0
     by_cases h5:rep≤last
     · have HW:Hid (wrE ⟨rep,time⟩ (Ent.mk last dt).rep=10):=Lib.hid (wrE_order hr h5)
       clear hv f1 hn he hr hd hk
       rw [HW.out]
       go_enter Tryz.func195,Tryz.ntmps195
       go_wp2
       go_quiet (fail)
       go_wp2
       go_ret
       exact ⟨rfl,below_drewN ((Below.refl _ _).alloc (Nat.le_refl _) _) _⟩
     · have HW:Hid (wrE ⟨rep,time⟩ (Ent.mk last dt).rep=0):=Lib.hid (wrE_fine hr h5)
       clear hv f1 hn he hr hd hk
       rw [HW.out]
       go_enter Tryz.func195,Tryz.ntmps195
       go_wp2
       go_quiet (fail)
       go_wp2
       go_ret
       exact ⟨rfl,below_drewN ((Below.refl _ _).alloc (Nat.le_refl _) _) _⟩
set_option maxRecDepth 100000 in
set_option maxHeartbeats 2000000 in
theorem vright_few (v:Value) (l:List Ent) (w:World) (hv:IsEnts w v l) (hl:l.length≤16) :
   Calls Tryz.prog 143 #[v] w (RightIs w (vr l 0 (-1))):=by
 have HV:=Lib.hid hv
 obtain ⟨a1,c1,rfl,f1⟩:=hv.form
 obtain ⟨n,hn⟩:∃ n,n=l.length:=⟨_,rfl⟩
 rw [←hn] at hl HV ⊢
 have HN:=Lib.hid hn
 clear hv f1 hn
 go_enter Tryz.func143,Tryz.ntmps143
 go_wp2
 go_loopw [11] (fun i wr=>∃ (k:Nat) (last:Int),k≤n∧i=.int .i64 k∧((k=0∧last=-1)∨∃ j d,k=j + 1∧l[j]? = some d∧last=d.rep)∧vr l 0 (-1)=vr (l.drop k) k last∧Below w.heap.size w wr) (fun i _=>n - (intOf i).toNat)
 case atStart=>exact ⟨0,-1,by omega,rfl,.inl ⟨rfl,rfl⟩,rfl,Below.refl _ _⟩
 case round =>
   obtain ⟨k,last,hk,rfl,hla,heq,hbel⟩:=hrel
   have HEQ:=Lib.hid heq
   have HLA:=Lib.hid hla
   have HB:=Lib.hid hbel
   have hzr:=hbel.size
   clear heq hbel hla
   by_cases hlt:k < n
   · have hkl:k < l.length:=by have:=HN.out;omega
     obtain ⟨t,ht⟩:∃ t,l[k]? = some t:=⟨l[k],List.getElem?_eq_getElem hkl⟩
     have hd:l.drop k=t :: l.drop (k + 1):=by
       rw [List.drop_eq_getElem_cons hkl];congr 1
       rw [List.getElem?_eq_getElem hkl] at ht;exact Option.some.inj ht
     have HD:=Lib.hid hd
     have HT:=Lib.hid ht
     obtain ⟨e,he⟩:∃ e,wrE t last=e:=⟨_,rfl⟩
     have HE:=Lib.hid he
     clear ht hkl hd he
     go_wp2_with fail
     refine (vwrong_any _ l k t last _ (HV.out.below (HB.out.mono (Nat.le_refl _))) (by have:=HN.out;omega) HT.out HLA.out).mono ?_
     rintro r w1 ⟨rfl,hb1⟩
     rw [HE.out]
     have HB1:Hid (Below w.heap.size w w1):=HB.out.trans (hb1.mono hzr)
     have hz1:=HB1.out.size
     clear hb1
     by_cases h0:e=0
     · subst h0
       have HN2:Hid (vr l 0 (-1)=vr (l.drop (k + 1)) (k + 1) t.rep):=Lib.hid (show vr l 0 (-1)=vr (l.drop (k + 1)) (k + 1) t.rep by rw [HEQ.out,HD.out,vr_good HE.out])
       go_wp2
       go_roundw
       case rel=>exact ⟨k + 1,t.rep,by omega,by go_num,.inr ⟨k,t,rfl,HT.out,rfl⟩,HN2.out,HB1.out⟩
       case measure=>simp [intOf];omega
     · have HN2:Hid (vr l 0 (-1)=(e,(k:Int))):=Lib.hid (show vr l 0 (-1)=(e,(k:Int)) by rw [HEQ.out,HD.out,vr_bad (by rw [HE.out];exact h0),HE.out])
       have hne:((e:Int) != 0)=true:=by simp;omega
       have H0:=Lib.hid h0
       clear h0
       go_wp2
       go_ret
       rw [HN2.out]
       exact ⟨_,rfl,atIs.new w1 e k H0.out,HB1.out.alloc hz1 _⟩
   · have HN2:Hid (vr l 0 (-1)=(0,-1)):=Lib.hid (show vr l 0 (-1)=(0,-1) by rw [HEQ.out,List.drop_eq_nil_of_le (by have:=HN.out;omega)];rfl)
     go_wp2
     go_ret
     exact ⟨_,rfl,.inl ⟨HN2.out,rfl⟩,HB.out⟩
theorem vright_any (v:Value) (l:List Ent) (w:World) (hv:IsEnts w v l) (hl:l.length≤9223372036854775807) :
   Calls Tryz.prog 143 #[v] w (VRightIs w (vrightF l)):=by
 by_cases h:16 < l.length
 · have HW:Hid (vrightF l=(4,-1)):=Lib.hid (show vrightF l=(4,-1) by unfold vrightF;rw [if_pos h])
   obtain ⟨a1,c1,rfl,_⟩:=hv.form
   obtain ⟨n,hn⟩:∃ n,n=l.length:=⟨_,rfl⟩
   rw [←hn] at h hl ⊢
   clear hv hn
   rw [HW.out]
   have h2:16 < (n:Int):=by omega
   go_enter Tryz.func143,Tryz.ntmps143
   go_wp2
   go_ret
   exact ⟨_,rfl,.inr ⟨by decide,rfl,rfl⟩,Below.refl _ _⟩
 · refine (vright_few v l w hv (by omega)).mono ?_
   rintro e w' ⟨x,h1,h2,h3⟩
   refine ⟨x,h1,.inl ?_,h3⟩
   unfold vrightF;rw [if_neg h];exact h2
end Go.Proofs.YtjkbmfpomgcblaaGreatDoor
