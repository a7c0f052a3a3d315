package entry

var typeNames = [Types]string{"free", "space", "thread", "first", "second", "data", "spare"}

var stateNames = [States]string{"none", "init", "final", "stopped"}

// TypeName, StateName: free space thread first second data spare; none init final stopped; "" for others.
func TypeName(t Type) string {
	if t < Free || t >= Types {
		return ""
	}
	return typeNames[t]
}

func StateName(s State) string {
	if s < None || s >= States {
		return ""
	}
	return stateNames[s]
}
